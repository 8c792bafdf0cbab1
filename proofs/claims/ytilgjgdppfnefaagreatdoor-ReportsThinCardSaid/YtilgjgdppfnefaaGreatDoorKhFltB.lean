/- Flows: their errors, as the program and as the reference find them. -/
import Derived.Test.YtilgjgdppfnefaaGreatDoorKhFltA
import Derived.Test.YtilgjgdppfnefaaGreatDoorKhWaysX
import Derived.Test.YtilgjgdppfnefaaGreatDoorKhItA
import Derived.Deep.DeepCutAuto
namespace Go.Proofs.YtilgjgdppfnefaaGreatDoor
open Go.RowKit

/-- A flow as a value, as cells. -/
abbrev flV (p : Int) (fs : Bool) (fh fl : Int) (ts : Bool) (th tl a b : Int) : Value := .agg #[.int .i64 p, .bool fs, .int .u64 fh, .int .u64 fl, .bool ts, .int .u64 th, .int .u64 tl, .int .i64 a, .int .i64 b]
abbrev flL (p : Int) (fs : Bool) (fh fl : Int) (ts : Bool) (th tl a b : Int) : List Value := [.int .i64 p, .bool fs, .int .u64 fh, .int .u64 fl, .bool ts, .int .u64 th, .int .u64 tl, .int .i64 a, .int .i64 b]
theorem Blk.nineF {w : World} {p : Nat} {x0 x1 x2 x3 x4 x5 x6 x7 x8 : Value} {t : TypeId} (h : Blk w p [x0, x1, x2, x3, x4, x5, x6, x7, x8] t) :
    w.cell? ⟨p, 0, none⟩ = some x0 ∧ w.cell? ⟨p, 1, none⟩ = some x1 ∧ w.cell? ⟨p, 2, none⟩ = some x2 ∧ w.cell? ⟨p, 3, none⟩ = some x3 ∧ w.cell? ⟨p, 4, none⟩ = some x4 ∧ w.cell? ⟨p, 5, none⟩ = some x5 ∧ w.cell? ⟨p, 6, none⟩ = some x6 ∧ w.cell? ⟨p, 7, none⟩ = some x7 ∧ w.cell? ⟨p, 8, none⟩ = some x8 :=
  ⟨h.cell rfl, h.cell rfl, h.cell rfl, h.cell rfl, h.cell rfl, h.cell rfl, h.cell rfl, h.cell rfl, h.cell rfl⟩
theorem Blk.sixF {w : World} {p : Nat} {x0 x1 x2 x3 x4 x5 : Value} {t : TypeId} (h : Blk w p [x0, x1, x2, x3, x4, x5] t) :
    w.cell? ⟨p, 0, none⟩ = some x0 ∧ w.cell? ⟨p, 1, none⟩ = some x1 ∧ w.cell? ⟨p, 2, none⟩ = some x2 ∧ w.cell? ⟨p, 3, none⟩ = some x3 ∧ w.cell? ⟨p, 4, none⟩ = some x4 ∧ w.cell? ⟨p, 5, none⟩ = some x5 :=
  ⟨h.cell rfl, h.cell rfl, h.cell rfl, h.cell rfl, h.cell rfl, h.cell rfl⟩

/-- Is a port out of its range, or there though the protocol has none? -/
def ptBad (p x : Int) : Bool := decide (x < 0) || decide (65535 < x) || (decide (0 < x) && !used p)
/-- A flow's error. -/
def flF (p : Int) (fs : Bool) (fh fl : Int) (ts : Bool) (th tl a b : Int) : Int :=
  if p < 1 ∨ 255 < p then 1 else if firstZ [adF fs fh fl, adF ts th tl] ≠ 0 then firstZ [adF fs fh fl, adF ts th tl] else if fs ≠ ts then 10 else if ptBad p a = true ∨ ptBad p b = true then 1 else 0

theorem or2 (x y : Int) (p cap : Nat) (w : World) (t : TypeId) (hL : Blk w p [.int .i64 x, .int .i64 y] t) :
    Calls Tryz.prog 32 #[.slice (some ⟨p, 0, none⟩) 2 cap] w fun e w' => e = .returned (.int .i64 (firstZ [x, y])) ∧ w = w' :=
  or_any [x, y] p cap w (fun i hi => by
    match i, hi with
    | 0, _ => exact hL.cell rfl
    | 1, _ => exact hL.cell rfl
    | n + 2, h => exact absurd h (by simp)) (by simp)

theorem port_cases (p x : Int) : x < 0 ∨ x = 0 ∨ (0 < x ∧ x ≤ 65535 ∧ used p = true) ∨ (0 < x ∧ x ≤ 65535 ∧ used p = false) ∨ 65535 < x := by
  cases used p <;> simp <;> omega
theorem pt_zero (p : Int) : ptBad p 0 = false := by simp [ptBad]
theorem pt_used {p x : Int} (h0 : 0 < x) (h1 : x ≤ 65535) (hu : used p = true) : ptBad p x = false := by simp [ptBad, hu]; omega
theorem pt_neg {p x : Int} (h : x < 0) : ptBad p x = true := by simp [ptBad, h]
theorem pt_large {p x : Int} (h : 65535 < x) : ptBad p x = true := by simp [ptBad, h]
theorem pt_unused {p x : Int} (h : 0 < x) (hu : used p = false) : ptBad p x = true := by simp [ptBad, h, hu]

set_option linter.unusedVariables false in
set_option linter.unusedSimpArgs false in
set_option maxHeartbeats 4000000 in
set_option maxRecDepth 100000 in
theorem checkFlow_any (p : Int) (fs : Bool) (fh fl : Int) (ts : Bool) (th tl a b : Int) (w : World) :
    Calls Tryz.prog 66 #[flV p fs fh fl ts th tl a b] w (GivesV (.int .i64 (flF p fs fh fl ts th tl a b)) w) := by
  have hB := Blk.new w (flL p fs fh fl ts th tl a b) 35
  have hb : Below w.heap.size w (w.alloc (.cells (flL p fs fh fl ts th tl a b).toArray 35)) := (Below.refl _ _).alloc (Nat.le_refl _) _
  have HC1 := Lib.hid (fun w' => checkAddr_any fs fh fl w')
  have HC2 := Lib.hid (fun w' => checkAddr_any ts th tl w')
  have HU := Lib.hid (fun w' => usedBy_any p w')
  have x0 : ∀ W, (Instr.index 110 (.agg #[.int .i64 a, .int .i64 b]) (.int .i64 0)).run Tryz.prog W = .ok (.int .i64 a) W := fun _ => by kernel_rfl
  have x1 : ∀ W, (Instr.index 110 (.agg #[.int .i64 a, .int .i64 b]) (.int .i64 1)).run Tryz.prog W = .ok (.int .i64 b) W := fun _ => by kernel_rfl
  by_cases hp1 : p < 1
  · have HX := Lib.hid (show flF p fs fh fl ts th tl a b = 1 from if_pos (.inl hp1))
    go_enter Tryz.func66, Tryz.ntmps66
    go_wp2_with fail
    go_ret
    exact ⟨by rw [HX.out]; rfl, hb⟩
  by_cases hp2 : 255 < p
  · have HX := Lib.hid (show flF p fs fh fl ts th tl a b = 1 from if_pos (.inr hp2))
    go_enter Tryz.func66, Tryz.ntmps66
    go_wp2_with fail
    go_ret
    exact ⟨by rw [HX.out]; rfl, hb⟩
  have HX : Hid (flF p fs fh fl ts th tl a b = if firstZ [adF fs fh fl, adF ts th tl] ≠ 0 then firstZ [adF fs fh fl, adF ts th tl] else if fs ≠ ts then 10 else if ptBad p a = true ∨ ptBad p b = true then 1 else 0) := Lib.hid (if_neg (by omega))
  generalize adF fs fh fl = x at HC1 HX
  generalize adF ts th tl = y at HC2 HX
  obtain ⟨c, hc⟩ : ∃ c, firstZ [x, y] = c := ⟨_, rfl⟩
  rw [hc] at HX
  have HO := Lib.hid hc
  clear hc
  go_enter Tryz.func66, Tryz.ntmps66
  go_upto_region 3 with fail
  go_cut [3] (fun s3 wx => s3 = .int .i64 c ∧ Blk wx w.heap.size (flL p fs fh fl ts th tl a b) 35 ∧ Below w.heap.size w wx)
  case first => as_aux_lemma =>
    refine wx_begin (none) [] (by kernel_rfl) (fun u0 hb0' hz0' => ?_)
    replace hB := hB.below hb0'
    replace hb := hb.trans (hb0'.mono hb.size)
    clear hb0' hz0'
    refine wx_pure (i := 0) (d := some 14) (v := ?_) (by simp only [List.getElem?_toArray, List.getElem?_cons_succ, List.getElem?_cons_zero] <;> rfl) (by rfl) (by kernel_rfl) (by kernel_rfl) (by kernel_rfl) (fun _ _ _ h => h) (by rfl) ?_ ?_
    rotate_left
    · ((intro u); go_simp; try with_reducible rfl)
    try simp only [Act.put, List.setIfInBounds_toArray, List.set_cons_zero, List.set_cons_succ]
    refine wx_take (i := 1) (d := some 15) (v := ?_) (by simp only [List.getElem?_toArray, List.getElem?_cons_succ, List.getElem?_cons_zero] <;> rfl) (by rfl) (by kernel_rfl) (by kernel_rfl) (by kernel_rfl) (fun _ _ _ h => h) (by rfl) (by kernel_rfl) ?_ ?_
    rotate_left
    · ((intro u hu); obtain ⟨c0, c1, c2, c3, c4, c5, c6, c7, c8⟩ := (hB.gn hu).nineF; go_simp; try with_reducible rfl)
    try simp only [Act.put, List.setIfInBounds_toArray, List.set_cons_zero, List.set_cons_succ]
    refine wx_pure (i := 3) (d := some 17) (v := ?_) (by simp only [List.getElem?_toArray, List.getElem?_cons_succ, List.getElem?_cons_zero] <;> rfl) (by rfl) (by kernel_rfl) (by kernel_rfl) (by kernel_rfl) (fun _ _ _ h => h) (by rfl) ?_ ?_
    rotate_left
    · ((intro u); go_simp; try with_reducible rfl)
    try simp only [Act.put, List.setIfInBounds_toArray, List.set_cons_zero, List.set_cons_succ]
    refine wx_take (i := 4) (d := some 18) (v := ?_) (by simp only [List.getElem?_toArray, List.getElem?_cons_succ, List.getElem?_cons_zero] <;> rfl) (by rfl) (by kernel_rfl) (by kernel_rfl) (by kernel_rfl) (fun _ _ _ h => h) (by rfl) (by kernel_rfl) ?_ ?_
    rotate_left
    · ((intro u hu); obtain ⟨c0, c1, c2, c3, c4, c5, c6, c7, c8⟩ := (hB.gn hu).nineF; go_simp; try with_reducible rfl)
    try simp only [Act.put, List.setIfInBounds_toArray, List.set_cons_zero, List.set_cons_succ]
    refine wx_one (i := 2) (by simp only [List.getElem?_toArray, List.getElem?_cons_succ, List.getElem?_cons_zero] <;> rfl) (by kernel_rfl) (by rfl) (fun K hK => ?_)
    go_simp
    refine (HC1.out _).mono ?_
    rintro e u2 ⟨rfl, hv2⟩
    refine hK.out _ _ (gbB hv2) ?_
    replace hB := hB.below hv2
    replace hb := hb.trans (hv2.mono hb.size)
    clear hK K hv2
    try simp only [Act.put, List.setIfInBounds_toArray, List.set_cons_zero, List.set_cons_succ]
    refine wx_one (i := 5) (by simp only [List.getElem?_toArray, List.getElem?_cons_succ, List.getElem?_cons_zero] <;> rfl) (by kernel_rfl) (by rfl) (fun K hK => ?_)
    go_simp
    refine (HC2.out _).mono ?_
    rintro e u5 ⟨rfl, hv5⟩
    refine hK.out _ _ (gbB hv5) ?_
    replace hB := hB.below hv5
    replace hb := hb.trans (hv5.mono hb.size)
    clear hK K hv5
    try simp only [Act.put, List.setIfInBounds_toArray, List.set_cons_zero, List.set_cons_succ]
    refine wx_one (i := 6) (by simp only [List.getElem?_toArray, List.getElem?_cons_succ, List.getElem?_cons_zero] <;> rfl) (by kernel_rfl) (by rfl) (fun K hK => ?_)
    go_simp
    refine hK.out _ _ (World.grownBy_alloc _ _ _) ?_
    refine wx_new (cs := [.int .i64 x, .int .i64 y]) (t := 39) (fun u6 hv6 hL6 hz6 => ?_)
    replace hB := hB.below hv6
    replace hb := hb.trans (hv6.mono hb.size)
    clear hK K hv6 hz6
    try simp only [Act.put, List.setIfInBounds_toArray, List.set_cons_zero, List.set_cons_succ]
    refine wx_one (i := 7) (by simp only [List.getElem?_toArray, List.getElem?_cons_succ, List.getElem?_cons_zero] <;> rfl) (by kernel_rfl) (by rfl) (fun K hK => ?_)
    go_simp
    refine (or2 x y _ _ _ _ hL6).mono ?_
    rintro e u7 ⟨rfl, rfl⟩
    rw [HO.out]
    refine hK.out _ _ (gb_refl _ _) ?_
    clear hK K hL6
    try simp only [Act.put, List.setIfInBounds_toArray, List.set_cons_zero, List.set_cons_succ]
    refine wx_pure (i := 8) (d := some 3) (v := ?_) (by simp only [List.getElem?_toArray, List.getElem?_cons_succ, List.getElem?_cons_zero] <;> rfl) (by rfl) (by kernel_rfl) (by kernel_rfl) (by kernel_rfl) (fun _ _ _ h => h) (by rfl) ?_ ?_
    rotate_left
    · ((intro u); go_simp; try with_reducible rfl)
    try simp only [Act.put, List.setIfInBounds_toArray, List.set_cons_zero, List.set_cons_succ]
    refine wx_done (by kernel_rfl) ?_ _
    go_wp2_with fail
    go_meet
    exact ⟨rfl, hB, hb⟩
  case rest =>
    clear hB hb HC1 HC2 HO
    obtain ⟨rfl, hB, hb⟩ := hcut
    obtain ⟨c0, c1, c2, c3, c4, c5, c6, c7, c8⟩ := hB.nineF
    clear hB
    by_cases hc : c = 0
    · subst hc
      replace HX : Hid (flF p fs fh fl ts th tl a b = if fs ≠ ts then 10 else if ptBad p a = true ∨ ptBad p b = true then 1 else 0) := Lib.hid (by rw [HX.out]; exact if_neg (by decide))
      by_cases hft : fs = ts
      · subst hft
        replace HX : Hid (flF p fs fh fl fs th tl a b = if ptBad p a = true ∨ ptBad p b = true then 1 else 0) := Lib.hid (by rw [HX.out]; exact if_neg (by simp))
        rcases port_cases p a with h0 | rfl | ⟨h0, k0, hu0⟩ | ⟨h0, k0, hu0⟩ | h0
        · skip
          have HY := Lib.hid (show flF p fs fh fl fs th tl _ _ = 1 by rw [HX.out]; exact if_pos (.inl (pt_neg h0)))
          clear HX
          go_wp2_with fail
          refine wp_loop_rounds 3 ?_
          rw [rounds_succ]
          go_wp2_with fail
          go_ret
          exact ⟨by rw [HY.out]; rfl, hb⟩
        · skip
          go_wp2_with fail
          refine wp_loop_rounds 3 ?_
          rw [rounds_succ]
          go_wp2_with fail
          rcases port_cases p b with h1 | rfl | ⟨h1, k1, hu1⟩ | ⟨h1, k1, hu1⟩ | h1
          · skip
            have HY := Lib.hid (show flF p fs fh fl fs th tl _ _ = 1 by rw [HX.out]; exact if_pos (.inr (pt_neg h1)))
            clear HX
            rw [rounds_succ]
            go_wp2_with fail
            go_ret
            exact ⟨by rw [HY.out]; rfl, hb⟩
          · skip
            rw [rounds_succ]
            go_wp2_with fail
            have HY := Lib.hid (show flF p fs fh fl fs th tl _ _ = 0 by rw [HX.out]; exact if_neg (fun h => h.elim (fun h => by rw [pt_zero p] at h; cases h) (fun h => by rw [pt_zero p] at h; cases h)))
            clear HX
            rw [rounds_succ]
            go_wp2_with fail
            go_ret
            exact ⟨by rw [HY.out]; rfl, hb⟩
          · skip
            rw [rounds_succ]
            go_wp2_with fail
            refine (HU.out _).mono ?_
            rintro e w1 ⟨rfl, rfl⟩
            rw [hu1]
            go_wp2_with fail
            have HY := Lib.hid (show flF p fs fh fl fs th tl _ _ = 0 by rw [HX.out]; exact if_neg (fun h => h.elim (fun h => by rw [pt_zero p] at h; cases h) (fun h => by rw [pt_used h1 k1 hu1] at h; cases h)))
            clear HX
            rw [rounds_succ]
            go_wp2_with fail
            go_ret
            exact ⟨by rw [HY.out]; rfl, hb⟩
          · skip
            have HY := Lib.hid (show flF p fs fh fl fs th tl _ _ = 1 by rw [HX.out]; exact if_pos (.inr (pt_unused h1 hu1)))
            clear HX
            rw [rounds_succ]
            go_wp2_with fail
            refine (HU.out _).mono ?_
            rintro e w1 ⟨rfl, rfl⟩
            rw [hu1]
            go_wp2_with fail
            go_ret
            exact ⟨by rw [HY.out]; rfl, hb⟩
          · skip
            have HY := Lib.hid (show flF p fs fh fl fs th tl _ _ = 1 by rw [HX.out]; exact if_pos (.inr (pt_large h1)))
            clear HX
            rw [rounds_succ]
            go_wp2_with fail
            go_ret
            exact ⟨by rw [HY.out]; rfl, hb⟩
        · skip
          go_wp2_with fail
          refine wp_loop_rounds 3 ?_
          rw [rounds_succ]
          go_wp2_with fail
          refine (HU.out _).mono ?_
          rintro e w1 ⟨rfl, rfl⟩
          rw [hu0]
          go_wp2_with fail
          rcases port_cases p b with h1 | rfl | ⟨h1, k1, hu1⟩ | ⟨h1, k1, hu1⟩ | h1
          · skip
            have HY := Lib.hid (show flF p fs fh fl fs th tl _ _ = 1 by rw [HX.out]; exact if_pos (.inr (pt_neg h1)))
            clear HX
            rw [rounds_succ]
            go_wp2_with fail
            go_ret
            exact ⟨by rw [HY.out]; rfl, hb⟩
          · skip
            rw [rounds_succ]
            go_wp2_with fail
            have HY := Lib.hid (show flF p fs fh fl fs th tl _ _ = 0 by rw [HX.out]; exact if_neg (fun h => h.elim (fun h => by rw [pt_used h0 k0 hu0] at h; cases h) (fun h => by rw [pt_zero p] at h; cases h)))
            clear HX
            rw [rounds_succ]
            go_wp2_with fail
            go_ret
            exact ⟨by rw [HY.out]; rfl, hb⟩
          · skip
            rw [rounds_succ]
            go_wp2_with fail
            refine (HU.out _).mono ?_
            rintro e w1 ⟨rfl, rfl⟩
            rw [hu1]
            go_wp2_with fail
            have HY := Lib.hid (show flF p fs fh fl fs th tl _ _ = 0 by rw [HX.out]; exact if_neg (fun h => h.elim (fun h => by rw [pt_used h0 k0 hu0] at h; cases h) (fun h => by rw [pt_used h1 k1 hu1] at h; cases h)))
            clear HX
            rw [rounds_succ]
            go_wp2_with fail
            go_ret
            exact ⟨by rw [HY.out]; rfl, hb⟩
          · skip
            have HY := Lib.hid (show flF p fs fh fl fs th tl _ _ = 1 by rw [HX.out]; exact if_pos (.inr (pt_unused h1 hu1)))
            clear HX
            rw [rounds_succ]
            go_wp2_with fail
            refine (HU.out _).mono ?_
            rintro e w1 ⟨rfl, rfl⟩
            rw [hu1]
            go_wp2_with fail
            go_ret
            exact ⟨by rw [HY.out]; rfl, hb⟩
          · skip
            have HY := Lib.hid (show flF p fs fh fl fs th tl _ _ = 1 by rw [HX.out]; exact if_pos (.inr (pt_large h1)))
            clear HX
            rw [rounds_succ]
            go_wp2_with fail
            go_ret
            exact ⟨by rw [HY.out]; rfl, hb⟩
        · skip
          have HY := Lib.hid (show flF p fs fh fl fs th tl _ _ = 1 by rw [HX.out]; exact if_pos (.inl (pt_unused h0 hu0)))
          clear HX
          go_wp2_with fail
          refine wp_loop_rounds 3 ?_
          rw [rounds_succ]
          go_wp2_with fail
          refine (HU.out _).mono ?_
          rintro e w1 ⟨rfl, rfl⟩
          rw [hu0]
          go_wp2_with fail
          go_ret
          exact ⟨by rw [HY.out]; rfl, hb⟩
        · skip
          have HY := Lib.hid (show flF p fs fh fl fs th tl _ _ = 1 by rw [HX.out]; exact if_pos (.inl (pt_large h0)))
          clear HX
          go_wp2_with fail
          refine wp_loop_rounds 3 ?_
          rw [rounds_succ]
          go_wp2_with fail
          go_ret
          exact ⟨by rw [HY.out]; rfl, hb⟩
      · have b1 : (fs == ts) = false := by simpa using hft
        have HY := Lib.hid (show flF p fs fh fl ts th tl a b = 10 by rw [HX.out]; exact if_pos hft)
        clear HX hft
        go_wp2_with fail
        go_ret
        exact ⟨by rw [HY.out]; rfl, hb⟩
    · have b0 : (c != 0) = true := by simpa using hc
      have HY := Lib.hid (show flF p fs fh fl ts th tl a b = c by rw [HX.out]; exact if_pos hc)
      clear HX hc
      go_wp2_with fail
      go_ret
      exact ⟨by rw [HY.out]; rfl, hb⟩

/-- The most that a port may be. -/
def mostP (p : Int) : Int := if used p = true then 65535 else 0
theorem ptBad_in (p x : Int) : ptBad p x = !inB x 0 (mostP p) := by
  unfold ptBad inB mostP
  rw [Bool.eq_iff_iff]
  cases used p <;> simp <;> omega

set_option linter.unusedVariables false in
set_option linter.unusedSimpArgs false in
set_option maxHeartbeats 4000000 in
set_option maxRecDepth 100000 in
theorem flowFault_any (p : Int) (fs : Bool) (fh fl : Int) (ts : Bool) (th tl a b : Int) (w : World) (h1 : 0 ≤ fh) (h2 : 0 ≤ th) :
    Calls Tryz.prog 37 #[flV p fs fh fl ts th tl a b] w (GivesV (.int .i64 (flF p fs fh fl ts th tl a b)) w) := by
  have hB := Blk.new w (flL p fs fh fl ts th tl a b) 35
  have hb : Below w.heap.size w (w.alloc (.cells (flL p fs fh fl ts th tl a b).toArray 35)) := (Below.refl _ _).alloc (Nat.le_refl _) _
  have HC1 := Lib.hid (fun w' => addrFault_any fs fh fl w' h1)
  have HC2 := Lib.hid (fun w' => addrFault_any ts th tl w' h2)
  have HP := Lib.hid (fun w' => in_any p 1 255 w')
  by_cases hp : inB p 1 255 = true
  case neg =>
    have hp' : inB p 1 255 = false := by simpa using hp
    have HX := Lib.hid (show flF p fs fh fl ts th tl a b = 1 from if_pos (by unfold inB at hp'; simp at hp'; omega))
    rw [hp'] at HP
    clear hp hp'
    go_enter Tryz.func37, Tryz.ntmps37
    go_wp2_with fail
    refine (HP.out _).mono ?_
    rintro e w1 ⟨rfl, rfl⟩
    go_wp2_with fail
    go_ret
    exact ⟨by rw [HX.out]; rfl, hb⟩
  have HX : Hid (flF p fs fh fl ts th tl a b = if firstZ [adF fs fh fl, adF ts th tl] ≠ 0 then firstZ [adF fs fh fl, adF ts th tl] else if fs ≠ ts then 10 else if ptBad p a = true ∨ ptBad p b = true then 1 else 0) := Lib.hid (if_neg (by unfold inB at hp; simp at hp; omega))
  rw [hp] at HP
  clear hp h1 h2
  obtain ⟨x, hx⟩ : ∃ x, adF fs fh fl = x := ⟨_, rfl⟩
  obtain ⟨y, hy⟩ : ∃ y, adF ts th tl = y := ⟨_, rfl⟩
  rw [hx] at HC1 HX
  rw [hy] at HC2 HX
  clear hx hy
  obtain ⟨c0, c1, c2, c3, c4, c5, c6, c7, c8⟩ := hB.nineF
  have hS := Blk.new (w.alloc (.cells (flL p fs fh fl ts th tl a b).toArray 35)) [.bool fs, .int .u64 fh, .int .u64 fl, .bool ts, .int .u64 th, .int .u64 tl] 33
  replace hB := hB.alloc (.cells #[.bool fs, .int .u64 fh, .int .u64 fl, .bool ts, .int .u64 th, .int .u64 tl] 33)
  have hb2 : Below w.heap.size w ((w.alloc (.cells (flL p fs fh fl ts th tl a b).toArray 35)).alloc (.cells #[.bool fs, .int .u64 fh, .int .u64 fl, .bool ts, .int .u64 th, .int .u64 tl] 33)) := hb.alloc hb.size _
  by_cases hx : x = 0
  case neg =>
    have b0 : (x != 0) = true := by simpa using hx
    have HY := Lib.hid (show flF p fs fh fl ts th tl a b = x by rw [HX.out, if_pos] <;> simp [firstZ, hx])
    clear HX hx
    go_enter Tryz.func37, Tryz.ntmps37
    go_wp2_with fail
    refine (HP.out _).mono ?_
    rintro e w1 ⟨rfl, rfl⟩
    go_wp2_with fail
    refine wp_loop_rounds 3 ?_
    rw [rounds_succ]
    go_wp2_with fail
    refine (HC1.out _).mono ?_
    rintro e w1 ⟨rfl, hb1⟩
    go_wp2_with fail
    go_ret
    exact ⟨by rw [HY.out]; rfl, (hb2.alloc hb2.size _).trans (hb1.mono (by simp; omega))⟩
  subst hx
  have hfz : firstZ [0, y] = y := by simp [firstZ]; intro h; exact h.symm
  rw [hfz] at HX
  clear hfz
  go_enter Tryz.func37, Tryz.ntmps37
  go_wp2_with fail
  refine (HP.out _).mono ?_
  rintro e w1 ⟨rfl, rfl⟩
  go_wp2_with fail
  refine wp_loop_rounds 3 ?_
  rw [rounds_succ]
  go_wp2_with fail
  refine (HC1.out _).mono ?_
  rintro e w1 ⟨rfl, hb1⟩
  have hb3 := (hb2.alloc hb2.size (.cells #[.bool fs, .int .u64 fh, .int .u64 fl] 33)).trans (hb1.mono (by simp; omega))
  have hB3 := (hB.alloc (.cells #[.bool fs, .int .u64 fh, .int .u64 fl] 33)).below hb1
  have hS3 := (hS.alloc (.cells #[.bool fs, .int .u64 fh, .int .u64 fl] 33)).below hb1
  clear hb1 hb hb2 hB hS c0 c1 c2 c3 c4 c5 c6 c7 c8
  simp at hS3
  obtain ⟨d0, d1, d2, d3, d4, d5⟩ := hS3.sixF
  go_wp2_with fail
  rw [rounds_succ]
  go_wp2_with fail
  refine (HC2.out _).mono ?_
  rintro e w2 ⟨rfl, hb4⟩
  have hb5 := (hb3.alloc hb3.size (.cells #[.bool ts, .int .u64 th, .int .u64 tl] 33)).trans (hb4.mono (by simp; have := hb3.size; omega))
  obtain ⟨c0, c1, c2, c3, c4, c5, c6, c7, c8⟩ := ((hB3.alloc (.cells #[.bool ts, .int .u64 th, .int .u64 tl] 33)).below hb4).nineF
  clear hb4 hb3 hB3 hS3 d0 d1 d2 d3 d4 d5 HC1 HC2 HP
  by_cases hy : y = 0
  case neg =>
    have b0 : (y != 0) = true := by simpa using hy
    have HY := Lib.hid (show flF p fs fh fl ts th tl a b = y by rw [HX.out, if_pos hy])
    clear HX hy
    go_wp2_with fail
    go_ret
    exact ⟨by rw [HY.out]; rfl, hb5⟩
  subst hy
  replace HX : Hid (flF p fs fh fl ts th tl a b = if fs ≠ ts then 10 else if ptBad p a = true ∨ ptBad p b = true then 1 else 0) := Lib.hid (by rw [HX.out]; exact if_neg (by decide))
  go_wp2_with fail
  rw [rounds_succ]
  by_cases hft : fs = ts
  case neg =>
    have b1 : (fs == ts) = false := by simpa using hft
    have HY := Lib.hid (show flF p fs fh fl ts th tl a b = 10 by rw [HX.out]; exact if_pos hft)
    clear HX hft
    go_wp2_with fail
    go_ret
    exact ⟨by rw [HY.out]; rfl, hb5⟩
  subst hft
  replace HX : Hid (flF p fs fh fl fs th tl a b = if ptBad p a = true ∨ ptBad p b = true then 1 else 0) := Lib.hid (by rw [HX.out]; exact if_neg (by simp))
  have HI1 := Lib.hid (fun w' => in_any a 0 (mostP p) w')
  have HI2 := Lib.hid (fun w' => in_any b 0 (mostP p) w')
  rw [ptBad_in, ptBad_in] at HX
  generalize inB a 0 (mostP p) = A at HI1 HX
  generalize inB b 0 (mostP p) = B at HI2 HX
  have HM : Hid (mostP p = if used p = true then 65535 else 0) := Lib.hid rfl
  generalize mostP p = m at HI1 HI2 HM
  by_cases h6 : p = 6
  · subst h6
    obtain rfl : m = 65535 := by rw [HM.out]; rfl
    go_wp2_with fail
    refine (HI1.out _).mono ?_
    rintro e w1 ⟨rfl, rfl⟩
    cases A
    · have HY := Lib.hid (HX.out.trans (if_pos (.inl rfl)))
      clear HX
      go_wp2_with fail
      go_ret
      exact ⟨by rw [HY.out]; rfl, hb5⟩
    · go_wp2_with fail
      refine (HI2.out _).mono ?_
      rintro e w1 ⟨rfl, rfl⟩
      cases B
      · have HY := Lib.hid (HX.out.trans (if_pos (.inr rfl)))
        clear HX
        go_wp2_with fail
        go_ret
        exact ⟨by rw [HY.out]; rfl, hb5⟩
      · have HY := Lib.hid (HX.out.trans (if_neg (by decide)))
        clear HX
        go_wp2_with fail
        go_ret
        exact ⟨by rw [HY.out]; rfl, hb5⟩
  · by_cases h17 : p = 17
    · subst h17
      obtain rfl : m = 65535 := by rw [HM.out]; rfl
      go_wp2_with fail
      refine (HI1.out _).mono ?_
      rintro e w1 ⟨rfl, rfl⟩
      cases A
      · have HY := Lib.hid (HX.out.trans (if_pos (.inl rfl)))
        clear HX
        go_wp2_with fail
        go_ret
        exact ⟨by rw [HY.out]; rfl, hb5⟩
      · go_wp2_with fail
        refine (HI2.out _).mono ?_
        rintro e w1 ⟨rfl, rfl⟩
        cases B
        · have HY := Lib.hid (HX.out.trans (if_pos (.inr rfl)))
          clear HX
          go_wp2_with fail
          go_ret
          exact ⟨by rw [HY.out]; rfl, hb5⟩
        · have HY := Lib.hid (HX.out.trans (if_neg (by decide)))
          clear HX
          go_wp2_with fail
          go_ret
          exact ⟨by rw [HY.out]; rfl, hb5⟩
    · have b6 : (p == 6) = false := by simpa using h6
      have b17 : (p == 17) = false := by simpa using h17
      obtain rfl : m = 0 := by rw [HM.out, if_neg]; unfold used; rw [b6, b17]; decide
      clear h6 h17
      go_wp2_with fail
      refine (HI1.out _).mono ?_
      rintro e w1 ⟨rfl, rfl⟩
      cases A
      · have HY := Lib.hid (HX.out.trans (if_pos (.inl rfl)))
        clear HX
        go_wp2_with fail
        go_ret
        exact ⟨by rw [HY.out]; rfl, hb5⟩
      · go_wp2_with fail
        refine (HI2.out _).mono ?_
        rintro e w1 ⟨rfl, rfl⟩
        cases B
        · have HY := Lib.hid (HX.out.trans (if_pos (.inr rfl)))
          clear HX
          go_wp2_with fail
          go_ret
          exact ⟨by rw [HY.out]; rfl, hb5⟩
        · have HY := Lib.hid (HX.out.trans (if_neg (by decide)))
          clear HX
          go_wp2_with fail
          go_ret
          exact ⟨by rw [HY.out]; rfl, hb5⟩
end Go.Proofs.YtilgjgdppfnefaaGreatDoor
