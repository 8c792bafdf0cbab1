/- What a stream makes: flows, their numbers within bounds. -/
import Derived.Test.YtfiocnjogbpgoaaGreatDoorKkFltA
import Derived.Test.YtfiocnjogbpgoaaGreatDoorKkWaysI
import Derived.Test.YtfiocnjogbpgoaaGreatDoorKkMdD
import Derived.Deep.DeepCutAuto
import Derived.Test.YtfiocnjogbpgoaaGreatDoorKkLaneC
namespace Go.Proofs.YtfiocnjogbpgoaaGreatDoor
open Go.RowKit

/-- A flow as a value, as cells. -/
abbrev flV (p : Int) (fs : Bool) (fh fl : Int) (ts : Bool) (th tl a b : Int) : Value := .agg #[.int .i64 p, .bool fs, .int .u64 fh, .int .u64 fl, .bool ts, .int .u64 th, .int .u64 tl, .int .i64 a, .int .i64 b]
abbrev flL (p : Int) (fs : Bool) (fh fl : Int) (ts : Bool) (th tl a b : Int) : List Value := [.int .i64 p, .bool fs, .int .u64 fh, .int .u64 fl, .bool ts, .int .u64 th, .int .u64 tl, .int .i64 a, .int .i64 b]
theorem Blk.nineF {w : World} {p : Nat} {x0 x1 x2 x3 x4 x5 x6 x7 x8 : Value} {t : TypeId} (h : Blk w p [x0, x1, x2, x3, x4, x5, x6, x7, x8] t) :
    w.cell? ⟨p, 0, none⟩ = some x0 ∧ w.cell? ⟨p, 1, none⟩ = some x1 ∧ w.cell? ⟨p, 2, none⟩ = some x2 ∧ w.cell? ⟨p, 3, none⟩ = some x3 ∧ w.cell? ⟨p, 4, none⟩ = some x4 ∧ w.cell? ⟨p, 5, none⟩ = some x5 ∧ w.cell? ⟨p, 6, none⟩ = some x6 ∧ w.cell? ⟨p, 7, none⟩ = some x7 ∧ w.cell? ⟨p, 8, none⟩ = some x8 :=
  ⟨h.cell rfl, h.cell rfl, h.cell rfl, h.cell rfl, h.cell rfl, h.cell rfl, h.cell rfl, h.cell rfl, h.cell rfl⟩
/-- Is a port out of its range, or there though the protocol has none? -/
def ptBad (p x : Int) : Bool := decide (x < 0) || decide (65535 < x) || (decide (0 < x) && !used p)
/-- A flow's error. -/
def flF (p : Int) (fs : Bool) (fh fl : Int) (ts : Bool) (th tl a b : Int) : Int :=
  if p < 1 ∨ 255 < p then 1 else if firstZ [adF fs fh fl, adF ts th tl] ≠ 0 then firstZ [adF fs fh fl, adF ts th tl] else if fs ≠ ts then 10 else if ptBad p a = true ∨ ptBad p b = true then 1 else 0

theorem or2 (x y : Int) (p cap : Nat) (w : World) (t : TypeId) (hL : Blk w p [.int .i64 x, .int .i64 y] t) :
    Calls Tryz.prog 61 #[.slice (some ⟨p, 0, none⟩) 2 cap] w fun e w' => e = .returned (.int .i64 (firstZ [x, y])) ∧ w = w' :=
  or_any [x, y] p cap w (fun i hi => by
    match i, hi with
    | 0, _ => exact hL.cell rfl
    | 1, _ => exact hL.cell rfl
    | n + 2, h => exact absurd h (by simp)) (by simp)

theorem port_cases (p x : Int) : x < 0 ∨ x = 0 ∨ (0 < x ∧ x ≤ 65535 ∧ used p = true) ∨ (0 < x ∧ x ≤ 65535 ∧ used p = false) ∨ 65535 < x := by
  cases used p <;> simp <;> omega
theorem pt_zero (p : Int) : ptBad p 0 = false := by simp [ptBad]
theorem pt_used {p x : Int} (h0 : 0 < x) (h1 : x ≤ 65535) (hu : used p = true) : ptBad p x = false := by simp [ptBad, hu]; omega
theorem pt_neg {p x : Int} (h : x < 0) : ptBad p x = true := by simp [ptBad, h]
theorem pt_large {p x : Int} (h : 65535 < x) : ptBad p x = true := by simp [ptBad, h]
theorem pt_unused {p x : Int} (h : 0 < x) (hu : used p = false) : ptBad p x = true := by simp [ptBad, h, hu]

set_option linter.unusedVariables false in
set_option linter.unusedSimpArgs false in
set_option maxHeartbeats 4000000 in
set_option maxRecDepth 100000 in
theorem checkFlow_any (p : Int) (fs : Bool) (fh fl : Int) (ts : Bool) (th tl a b : Int) (w : World) :
    Calls Tryz.prog 106 #[flV p fs fh fl ts th tl a b] w (GivesV (.int .i64 (flF p fs fh fl ts th tl a b)) w) := by
  have hB := Blk.new w (flL p fs fh fl ts th tl a b) 54
  have hb : Below w.heap.size w (w.alloc (.cells (flL p fs fh fl ts th tl a b).toArray 54)) := (Below.refl _ _).alloc (Nat.le_refl _) _
  have HC1 := Lib.hid (fun w' => checkAddr_any fs fh fl w')
  have HC2 := Lib.hid (fun w' => checkAddr_any ts th tl w')
  have HU := Lib.hid (fun w' => usedBy_any p w')
  have x0 : ∀ W, (Instr.index 52 (.agg #[.int .i64 a, .int .i64 b]) (.int .i64 0)).run Tryz.prog W = .ok (.int .i64 a) W := fun _ => by kernel_rfl
  have x1 : ∀ W, (Instr.index 52 (.agg #[.int .i64 a, .int .i64 b]) (.int .i64 1)).run Tryz.prog W = .ok (.int .i64 b) W := fun _ => by kernel_rfl
  by_cases hp1 : p < 1
  · have HX := Lib.hid (show flF p fs fh fl ts th tl a b = 1 from if_pos (.inl hp1))
    go_enter Tryz.func106, Tryz.ntmps106
    go_wp2_with fail
    go_ret
    exact ⟨by rw [HX.out]; rfl, hb⟩
  by_cases hp2 : 255 < p
  · have HX := Lib.hid (show flF p fs fh fl ts th tl a b = 1 from if_pos (.inr hp2))
    go_enter Tryz.func106, Tryz.ntmps106
    go_wp2_with fail
    go_ret
    exact ⟨by rw [HX.out]; rfl, hb⟩
  have HX : Hid (flF p fs fh fl ts th tl a b = if firstZ [adF fs fh fl, adF ts th tl] ≠ 0 then firstZ [adF fs fh fl, adF ts th tl] else if fs ≠ ts then 10 else if ptBad p a = true ∨ ptBad p b = true then 1 else 0) := Lib.hid (if_neg (by omega))
  generalize adF fs fh fl = x at HC1 HX
  generalize adF ts th tl = y at HC2 HX
  obtain ⟨c, hc⟩ : ∃ c, firstZ [x, y] = c := ⟨_, rfl⟩
  rw [hc] at HX
  have HO := Lib.hid hc
  clear hc
  go_enter Tryz.func106, Tryz.ntmps106
  go_upto_region 3 with fail
  go_cut [3] (fun s3 wx => s3 = .int .i64 c ∧ Blk wx w.heap.size (flL p fs fh fl ts th tl a b) 54 ∧ Below w.heap.size w wx)
  case first => as_aux_lemma =>
    refine wx_begin (none) [] (by kernel_rfl) (fun u0 hb0' hz0' => ?_)
    replace hB := hB.below hb0'
    replace hb := hb.trans (hb0'.mono hb.size)
    clear hb0' hz0'
    refine wx_pure (i := 0) (d := some 14) (v := ?_) (by simp only [List.getElem?_toArray, List.getElem?_cons_succ, List.getElem?_cons_zero] <;> rfl) (by rfl) (by kernel_rfl) (by kernel_rfl) (by kernel_rfl) (fun _ _ _ h => h) (by rfl) ?_ ?_
    rotate_left
    · ((intro u); go_simp; try with_reducible rfl)
    try simp only [Act.put, List.setIfInBounds_toArray, List.set_cons_zero, List.set_cons_succ]
    refine wx_take (i := 1) (d := some 15) (v := ?_) (by simp only [List.getElem?_toArray, List.getElem?_cons_succ, List.getElem?_cons_zero] <;> rfl) (by rfl) (by kernel_rfl) (by kernel_rfl) (by kernel_rfl) (fun _ _ _ h => h) (by rfl) (by kernel_rfl) ?_ ?_
    rotate_left
    · ((intro u hu); obtain ⟨c0, c1, c2, c3, c4, c5, c6, c7, c8⟩ := (hB.gn hu).nineF; go_simp; try with_reducible rfl)
    try simp only [Act.put, List.setIfInBounds_toArray, List.set_cons_zero, List.set_cons_succ]
    refine wx_pure (i := 3) (d := some 17) (v := ?_) (by simp only [List.getElem?_toArray, List.getElem?_cons_succ, List.getElem?_cons_zero] <;> rfl) (by rfl) (by kernel_rfl) (by kernel_rfl) (by kernel_rfl) (fun _ _ _ h => h) (by rfl) ?_ ?_
    rotate_left
    · ((intro u); go_simp; try with_reducible rfl)
    try simp only [Act.put, List.setIfInBounds_toArray, List.set_cons_zero, List.set_cons_succ]
    refine wx_take (i := 4) (d := some 18) (v := ?_) (by simp only [List.getElem?_toArray, List.getElem?_cons_succ, List.getElem?_cons_zero] <;> rfl) (by rfl) (by kernel_rfl) (by kernel_rfl) (by kernel_rfl) (fun _ _ _ h => h) (by rfl) (by kernel_rfl) ?_ ?_
    rotate_left
    · ((intro u hu); obtain ⟨c0, c1, c2, c3, c4, c5, c6, c7, c8⟩ := (hB.gn hu).nineF; go_simp; try with_reducible rfl)
    try simp only [Act.put, List.setIfInBounds_toArray, List.set_cons_zero, List.set_cons_succ]
    refine wx_one (i := 2) (by simp only [List.getElem?_toArray, List.getElem?_cons_succ, List.getElem?_cons_zero] <;> rfl) (by kernel_rfl) (by rfl) (fun K hK => ?_)
    go_simp
    refine (HC1.out _).mono ?_
    rintro e u2 ⟨rfl, hv2⟩
    refine hK.out _ _ (gbB hv2) ?_
    replace hB := hB.below hv2
    replace hb := hb.trans (hv2.mono hb.size)
    clear hK K hv2
    try simp only [Act.put, List.setIfInBounds_toArray, List.set_cons_zero, List.set_cons_succ]
    refine wx_one (i := 5) (by simp only [List.getElem?_toArray, List.getElem?_cons_succ, List.getElem?_cons_zero] <;> rfl) (by kernel_rfl) (by rfl) (fun K hK => ?_)
    go_simp
    refine (HC2.out _).mono ?_
    rintro e u5 ⟨rfl, hv5⟩
    refine hK.out _ _ (gbB hv5) ?_
    replace hB := hB.below hv5
    replace hb := hb.trans (hv5.mono hb.size)
    clear hK K hv5
    try simp only [Act.put, List.setIfInBounds_toArray, List.set_cons_zero, List.set_cons_succ]
    refine wx_one (i := 6) (by simp only [List.getElem?_toArray, List.getElem?_cons_succ, List.getElem?_cons_zero] <;> rfl) (by kernel_rfl) (by rfl) (fun K hK => ?_)
    go_simp
    refine hK.out _ _ (World.grownBy_alloc _ _ _) ?_
    refine wx_new (cs := [.int .i64 x, .int .i64 y]) (t := 33) (fun u6 hv6 hL6 hz6 => ?_)
    replace hB := hB.below hv6
    replace hb := hb.trans (hv6.mono hb.size)
    clear hK K hv6 hz6
    try simp only [Act.put, List.setIfInBounds_toArray, List.set_cons_zero, List.set_cons_succ]
    refine wx_one (i := 7) (by simp only [List.getElem?_toArray, List.getElem?_cons_succ, List.getElem?_cons_zero] <;> rfl) (by kernel_rfl) (by rfl) (fun K hK => ?_)
    go_simp
    refine (or2 x y _ _ _ _ hL6).mono ?_
    rintro e u7 ⟨rfl, rfl⟩
    rw [HO.out]
    refine hK.out _ _ (gb_refl _ _) ?_
    clear hK K hL6
    try simp only [Act.put, List.setIfInBounds_toArray, List.set_cons_zero, List.set_cons_succ]
    refine wx_pure (i := 8) (d := some 3) (v := ?_) (by simp only [List.getElem?_toArray, List.getElem?_cons_succ, List.getElem?_cons_zero] <;> rfl) (by rfl) (by kernel_rfl) (by kernel_rfl) (by kernel_rfl) (fun _ _ _ h => h) (by rfl) ?_ ?_
    rotate_left
    · ((intro u); go_simp; try with_reducible rfl)
    try simp only [Act.put, List.setIfInBounds_toArray, List.set_cons_zero, List.set_cons_succ]
    refine wx_done (by kernel_rfl) ?_ _
    go_wp2_with fail
    go_meet
    exact ⟨rfl, hB, hb⟩
  case rest =>
    clear hB hb HC1 HC2 HO
    obtain ⟨rfl, hB, hb⟩ := hcut
    obtain ⟨c0, c1, c2, c3, c4, c5, c6, c7, c8⟩ := hB.nineF
    clear hB
    by_cases hc : c = 0
    · subst hc
      replace HX : Hid (flF p fs fh fl ts th tl a b = if fs ≠ ts then 10 else if ptBad p a = true ∨ ptBad p b = true then 1 else 0) := Lib.hid (by rw [HX.out]; exact if_neg (by decide))
      by_cases hft : fs = ts
      · subst hft
        replace HX : Hid (flF p fs fh fl fs th tl a b = if ptBad p a = true ∨ ptBad p b = true then 1 else 0) := Lib.hid (by rw [HX.out]; exact if_neg (by simp))
        rcases port_cases p a with h0 | rfl | ⟨h0, k0, hu0⟩ | ⟨h0, k0, hu0⟩ | h0
        · skip
          have HY := Lib.hid (show flF p fs fh fl fs th tl _ _ = 1 by rw [HX.out]; exact if_pos (.inl (pt_neg h0)))
          clear HX
          go_wp2_with fail
          refine wp_loop_rounds 3 ?_
          rw [rounds_succ]
          go_wp2_with fail
          go_ret
          exact ⟨by rw [HY.out]; rfl, hb⟩
        · skip
          go_wp2_with fail
          refine wp_loop_rounds 3 ?_
          rw [rounds_succ]
          go_wp2_with fail
          rcases port_cases p b with h1 | rfl | ⟨h1, k1, hu1⟩ | ⟨h1, k1, hu1⟩ | h1
          · skip
            have HY := Lib.hid (show flF p fs fh fl fs th tl _ _ = 1 by rw [HX.out]; exact if_pos (.inr (pt_neg h1)))
            clear HX
            rw [rounds_succ]
            go_wp2_with fail
            go_ret
            exact ⟨by rw [HY.out]; rfl, hb⟩
          · skip
            rw [rounds_succ]
            go_wp2_with fail
            have HY := Lib.hid (show flF p fs fh fl fs th tl _ _ = 0 by rw [HX.out]; exact if_neg (fun h => h.elim (fun h => by rw [pt_zero p] at h; cases h) (fun h => by rw [pt_zero p] at h; cases h)))
            clear HX
            rw [rounds_succ]
            go_wp2_with fail
            go_ret
            exact ⟨by rw [HY.out]; rfl, hb⟩
          · skip
            rw [rounds_succ]
            go_wp2_with fail
            refine (HU.out _).mono ?_
            rintro e w1 ⟨rfl, rfl⟩
            rw [hu1]
            go_wp2_with fail
            have HY := Lib.hid (show flF p fs fh fl fs th tl _ _ = 0 by rw [HX.out]; exact if_neg (fun h => h.elim (fun h => by rw [pt_zero p] at h; cases h) (fun h => by rw [pt_used h1 k1 hu1] at h; cases h)))
            clear HX
            rw [rounds_succ]
            go_wp2_with fail
            go_ret
            exact ⟨by rw [HY.out]; rfl, hb⟩
          · skip
            have HY := Lib.hid (show flF p fs fh fl fs th tl _ _ = 1 by rw [HX.out]; exact if_pos (.inr (pt_unused h1 hu1)))
            clear HX
            rw [rounds_succ]
            go_wp2_with fail
            refine (HU.out _).mono ?_
            rintro e w1 ⟨rfl, rfl⟩
            rw [hu1]
            go_wp2_with fail
            go_ret
            exact ⟨by rw [HY.out]; rfl, hb⟩
          · skip
            have HY := Lib.hid (show flF p fs fh fl fs th tl _ _ = 1 by rw [HX.out]; exact if_pos (.inr (pt_large h1)))
            clear HX
            rw [rounds_succ]
            go_wp2_with fail
            go_ret
            exact ⟨by rw [HY.out]; rfl, hb⟩
        · skip
          go_wp2_with fail
          refine wp_loop_rounds 3 ?_
          rw [rounds_succ]
          go_wp2_with fail
          refine (HU.out _).mono ?_
          rintro e w1 ⟨rfl, rfl⟩
          rw [hu0]
          go_wp2_with fail
          rcases port_cases p b with h1 | rfl | ⟨h1, k1, hu1⟩ | ⟨h1, k1, hu1⟩ | h1
          · skip
            have HY := Lib.hid (show flF p fs fh fl fs th tl _ _ = 1 by rw [HX.out]; exact if_pos (.inr (pt_neg h1)))
            clear HX
            rw [rounds_succ]
            go_wp2_with fail
            go_ret
            exact ⟨by rw [HY.out]; rfl, hb⟩
          · skip
            rw [rounds_succ]
            go_wp2_with fail
            have HY := Lib.hid (show flF p fs fh fl fs th tl _ _ = 0 by rw [HX.out]; exact if_neg (fun h => h.elim (fun h => by rw [pt_used h0 k0 hu0] at h; cases h) (fun h => by rw [pt_zero p] at h; cases h)))
            clear HX
            rw [rounds_succ]
            go_wp2_with fail
            go_ret
            exact ⟨by rw [HY.out]; rfl, hb⟩
          · skip
            rw [rounds_succ]
            go_wp2_with fail
            refine (HU.out _).mono ?_
            rintro e w1 ⟨rfl, rfl⟩
            rw [hu1]
            go_wp2_with fail
            have HY := Lib.hid (show flF p fs fh fl fs th tl _ _ = 0 by rw [HX.out]; exact if_neg (fun h => h.elim (fun h => by rw [pt_used h0 k0 hu0] at h; cases h) (fun h => by rw [pt_used h1 k1 hu1] at h; cases h)))
            clear HX
            rw [rounds_succ]
            go_wp2_with fail
            go_ret
            exact ⟨by rw [HY.out]; rfl, hb⟩
          · skip
            have HY := Lib.hid (show flF p fs fh fl fs th tl _ _ = 1 by rw [HX.out]; exact if_pos (.inr (pt_unused h1 hu1)))
            clear HX
            rw [rounds_succ]
            go_wp2_with fail
            refine (HU.out _).mono ?_
            rintro e w1 ⟨rfl, rfl⟩
            rw [hu1]
            go_wp2_with fail
            go_ret
            exact ⟨by rw [HY.out]; rfl, hb⟩
          · skip
            have HY := Lib.hid (show flF p fs fh fl fs th tl _ _ = 1 by rw [HX.out]; exact if_pos (.inr (pt_large h1)))
            clear HX
            rw [rounds_succ]
            go_wp2_with fail
            go_ret
            exact ⟨by rw [HY.out]; rfl, hb⟩
        · skip
          have HY := Lib.hid (show flF p fs fh fl fs th tl _ _ = 1 by rw [HX.out]; exact if_pos (.inl (pt_unused h0 hu0)))
          clear HX
          go_wp2_with fail
          refine wp_loop_rounds 3 ?_
          rw [rounds_succ]
          go_wp2_with fail
          refine (HU.out _).mono ?_
          rintro e w1 ⟨rfl, rfl⟩
          rw [hu0]
          go_wp2_with fail
          go_ret
          exact ⟨by rw [HY.out]; rfl, hb⟩
        · skip
          have HY := Lib.hid (show flF p fs fh fl fs th tl _ _ = 1 by rw [HX.out]; exact if_pos (.inl (pt_large h0)))
          clear HX
          go_wp2_with fail
          refine wp_loop_rounds 3 ?_
          rw [rounds_succ]
          go_wp2_with fail
          go_ret
          exact ⟨by rw [HY.out]; rfl, hb⟩
      · have b1 : (fs == ts) = false := by simpa using hft
        have HY := Lib.hid (show flF p fs fh fl ts th tl a b = 10 by rw [HX.out]; exact if_pos hft)
        clear HX hft
        go_wp2_with fail
        go_ret
        exact ⟨by rw [HY.out]; rfl, hb⟩
    · have b0 : (c != 0) = true := by simpa using hc
      have HY := Lib.hid (show flF p fs fh fl ts th tl a b = c by rw [HX.out]; exact if_pos hc)
      clear HX hc
      go_wp2_with fail
      go_ret
      exact ⟨by rw [HY.out]; rfl, hb⟩

end Go.Proofs.YtfiocnjogbpgoaaGreatDoor
namespace Go.Proofs.YtfiocnjogbpgoaaGreatDoor
open Go.RowKit
set_option linter.unusedVariables false
set_option linter.unusedSimpArgs false

theorem Blk.nineFreeF {w : World} {p : Nat} {cs : List Value} {t : TypeId} (h : Blk w p cs t) :
    w.frozen? ⟨p, 0, none⟩ = false ∧ w.frozen? ⟨p, 1, none⟩ = false ∧ w.frozen? ⟨p, 2, none⟩ = false ∧ w.frozen? ⟨p, 3, none⟩ = false ∧ w.frozen? ⟨p, 4, none⟩ = false ∧ w.frozen? ⟨p, 5, none⟩ = false ∧ w.frozen? ⟨p, 6, none⟩ = false ∧ w.frozen? ⟨p, 7, none⟩ = false ∧ w.frozen? ⟨p, 8, none⟩ = false :=
  ⟨h.free _, h.free _, h.free _, h.free _, h.free _, h.free _, h.free _, h.free _, h.free _⟩

/-- pick_lit, the block's number spelt apart. -/
theorem pick_lit_at (w : World) (b R p n : Nat) (zs : List Int) (t : TypeId) (cap : Nat) (hp : p = w.heap.size) (hn : n = zs.length) (hs : Str w b (R + 1)) (h1 : 1 ≤ zs.length) (h2 : zs.length ≤ 1000)
    (P : Int → Prop) (hP : ∀ z ∈ zs, P z) :
    Calls Tryz.prog 27 #[.pointer (some ⟨b, 0, none⟩), .slice (some ⟨p, 0, none⟩) n cap] (w.alloc (.cells (zs.map (Value.int .i64)).toArray t))
      (NumPost P b R (w.alloc (.cells (zs.map (Value.int .i64)).toArray t))) := by
  subst hp; subst hn
  exact pick_lit w b R zs t cap hs h1 h2 P hP

set_option maxHeartbeats 400000 in
theorem at_any (n : Int) (w : World) (h1 : 0 ≤ n) (h2 : n ≤ 5) :
    Calls Tryz.prog 51 #[.int .i64 n] w (GivesV (adV false 0 (1681915904 + n)) w) := by
  go_enter Tryz.func51, Tryz.ntmps51
  go_wp2_with fail
  refine bodyPost_ret (v := adV false 0 (1681915904 + n)) ?_ rfl ⟨rfl, ?_⟩
  · simp [results, Tryz.results51, go_sem]
  · exact (Below.refl _ _).alloc (Nat.le_refl _) _

set_option maxHeartbeats 400000 in
theorem sixAt_any (n : Int) (w : World) (h1 : 0 ≤ n) (h2 : n ≤ 5) :
    Calls Tryz.prog 168 #[.int .i64 n] w (GivesV (adV true 18230571291595767808 n) w) := by
  go_enter Tryz.func168, Tryz.ntmps168
  go_wp2_with fail
  refine bodyPost_ret (v := adV true 18230571291595767808 n) ?_ rfl ⟨rfl, ?_⟩
  · simp [results, Tryz.results168, go_sem]
  · exact (Below.refl _ _).alloc (Nat.le_refl _) _

/-- A stream b, a younger block q where the result goes; since w0 nothing old but the stream has turned. -/
structure PreR (w0 : World) (b R q : Nat) (zs : List Value) (t : TypeId) (w : World) : Prop where
  str : Str w b R
  res : Blk w q zs t
  base : w0.grownBy w (some b)
  lt : b < q ∧ w0.heap.size ≤ q
theorem PreR.start {w0 : World} {b R : Nat} (hs : Str w0 b R) (zs : List Value) (t : TypeId) : PreR w0 b R w0.heap.size zs t (w0.alloc (.cells zs.toArray t)) := ⟨hs.alloc _, Blk.new w0 zs t, World.grownBy_alloc _ _ _, hs.lt, Nat.le_refl _⟩
theorem PreR.alloc {w0 w : World} {b R q : Nat} {zs : List Value} {t : TypeId} (h : PreR w0 b R q zs t w) (o : Obj) : PreR w0 b R q zs t (w.alloc o) := ⟨h.str.alloc o, h.res.alloc o, gb_alloc h.base o, h.lt⟩
theorem PreR.step {w0 w w' : World} {b R R' q : Nat} {zs : List Value} {t : TypeId} (h : PreR w0 b R q zs t w) (hs : Str w' b R') (hg : w.grownBy w' (some b)) : PreR w0 b R' q zs t w' := ⟨hs, h.res.gb hg h.lt.1, gb_trans h.base hg, h.lt⟩
theorem PreR.below {w0 w w' : World} {b R q : Nat} {zs : List Value} {t : TypeId} (h : PreR w0 b R q zs t w) (hb : Below w.heap.size w w') : PreR w0 b R q zs t w' := ⟨h.str.below hb, h.res.below hb, gb_below h.base hb, h.lt⟩
theorem PreR.le {w0 w : World} {b R R' q : Nat} {zs : List Value} {t : TypeId} (h : PreR w0 b R q zs t w) (hR : R' ≤ R) : PreR w0 b R' q zs t w := ⟨h.str.le hR, h.res, h.base, h.lt⟩

/-- Likewise with a younger block p of what is made. -/
structure PreF (w0 : World) (b R q p : Nat) (zs cs : List Value) (t : TypeId) (w : World) : Prop where
  r : PreR w0 b R q zs t w
  blk : Blk w p cs t
  lt : q < p
theorem PreR.newF {w0 w : World} {b R q : Nat} {zs : List Value} {t : TypeId} (h : PreR w0 b R q zs t w) (cs : List Value) : PreF w0 b R q w.heap.size zs cs t (w.alloc (.cells cs.toArray t)) := ⟨h.alloc _, Blk.new w cs t, h.res.lt⟩
theorem PreF.alloc {w0 w : World} {b R q p : Nat} {zs cs : List Value} {t : TypeId} (h : PreF w0 b R q p zs cs t w) (o : Obj) : PreF w0 b R q p zs cs t (w.alloc o) := ⟨h.r.alloc o, h.blk.alloc o, h.lt⟩
theorem PreF.step {w0 w w' : World} {b R R' q p : Nat} {zs cs : List Value} {t : TypeId} (h : PreF w0 b R q p zs cs t w) (hs : Str w' b R') (hg : w.grownBy w' (some b)) : PreF w0 b R' q p zs cs t w' := ⟨h.r.step hs hg, h.blk.gb hg (by have := h.lt; have := h.r.lt; omega), h.lt⟩
theorem PreF.below {w0 w w' : World} {b R q p : Nat} {zs cs : List Value} {t : TypeId} (h : PreF w0 b R q p zs cs t w) (hb : Below w.heap.size w w') : PreF w0 b R q p zs cs t w' := ⟨h.r.below hb, h.blk.below hb, h.lt⟩
theorem PreF.le {w0 w : World} {b R R' q p : Nat} {zs cs : List Value} {t : TypeId} (h : PreF w0 b R q p zs cs t w) (hR : R' ≤ R) : PreF w0 b R' q p zs cs t w := ⟨h.r.le hR, h.blk, h.lt⟩
theorem PreF.set {w0 w : World} {b R q p : Nat} {zs cs : List Value} {t : TypeId} (h : PreF w0 b R q p zs cs t w) (i : Nat) (v : Value) : PreF w0 b R q p zs (cs.set i v) t (w.setCell ⟨p, i, none⟩ v) := by
  have h1 := h.lt
  have h2 := h.r.lt
  exact ⟨⟨h.r.str.setCell (p := ⟨p, i, none⟩) (by simp; omega) v, h.r.res.other (a := ⟨p, i, none⟩) (by simp; omega) v, gb_setNew (p := ⟨p, i, none⟩) h.r.base (by simp; omega) v, h2⟩, h.blk.set i v, h1⟩

/-- Stores into the block of the result. -/
theorem fin1 {w0 w : World} {b R q : Nat} (hb : b < q) (h0 : w0.heap.size ≤ q) (h : Str w b R ∧ w0.grownBy w (some b)) (i : Nat) (v : Value) : Str (w.setCell ⟨q, i, none⟩ v) b R ∧ w0.grownBy (w.setCell ⟨q, i, none⟩ v) (some b) :=
  ⟨h.1.setCell (p := ⟨q, i, none⟩) hb v, gb_setNew (p := ⟨q, i, none⟩) h.2 h0 v⟩
theorem fin9 {w0 w : World} {b R q : Nat} (hb : b < q) (h0 : w0.heap.size ≤ q) (h : Str w b R ∧ w0.grownBy w (some b)) (x0 x1 x2 x3 x4 x5 x6 x7 x8 : Value) :
    Str (((((((((w.setCell ⟨q, 0, none⟩ x0).setCell ⟨q, 1, none⟩ x1).setCell ⟨q, 2, none⟩ x2).setCell ⟨q, 3, none⟩ x3).setCell ⟨q, 4, none⟩ x4).setCell ⟨q, 5, none⟩ x5).setCell ⟨q, 6, none⟩ x6).setCell ⟨q, 7, none⟩ x7).setCell ⟨q, 8, none⟩ x8) b R ∧
    w0.grownBy (((((((((w.setCell ⟨q, 0, none⟩ x0).setCell ⟨q, 1, none⟩ x1).setCell ⟨q, 2, none⟩ x2).setCell ⟨q, 3, none⟩ x3).setCell ⟨q, 4, none⟩ x4).setCell ⟨q, 5, none⟩ x5).setCell ⟨q, 6, none⟩ x6).setCell ⟨q, 7, none⟩ x7).setCell ⟨q, 8, none⟩ x8) (some b) :=
  fin1 hb h0 (fin1 hb h0 (fin1 hb h0 (fin1 hb h0 (fin1 hb h0 (fin1 hb h0 (fin1 hb h0 (fin1 hb h0 (fin1 hb h0 h 0 x0) 1 x1) 2 x2) 3 x3) 4 x4) 5 x5) 6 x6) 7 x7) 8 x8
/-- A number that can be added to. -/
def j60 (z : Int) : Prop := -1152921504606846976 ≤ z ∧ z ≤ 1152921504606846976
abbrev zeroF : List Value := flL 0 false 0 0 false 0 0 0 0
/-- Some flow in the block p. -/
def AnyF (w0 : World) (b R q pa : Nat) (w : World) : Prop := ∃ p fs fh fl ts th tl a c, (U64 fh ∧ U64 fl ∧ U64 th ∧ U64 tl) ∧ (j60 p ∧ j60 a ∧ j60 c) ∧ PreF w0 b R q pa zeroF (flL p fs fh fl ts th tl a c) 54 w
/-- A step of the stream b: a flow. -/
def FlPost (b R : Nat) (w : World) (e : Ending) (w' : World) : Prop :=
  ∃ p fs fh fl ts th tl a c, (U64 fh ∧ U64 fl ∧ U64 th ∧ U64 tl) ∧ (j60 p ∧ j60 a ∧ j60 c) ∧ e = .returned (flV p fs fh fl ts th tl a c) ∧ Str w' b R ∧ w.grownBy w' (some b)

set_option maxHeartbeats 4000000 in
set_option maxRecDepth 100000 in
theorem rightFlow_any (w : World) (b R : Nat) (hs : Str w b (R + 10)) :
    Calls Tryz.prog 103 #[.pointer (some ⟨b, 0, none⟩)] w (FlPost b R w) := by
  have hR := PreR.start hs zeroF 54
  clear hs
  go_enter Tryz.func103, Tryz.ntmps103
  go_wp2_with fail
  refine (pick_lit_at _ b (R + 9) _ _ [6, 6, 6, 17, 1, 47] _ _ (by simp) (by simp) hR.str (by simp) (by simp) (fun r => 0 ≤ r ∧ r ≤ 65535) (by simp)).mono ?_
  rintro e w1 ⟨pr, hpr, rfl, hs1, hg1⟩
  replace hR := (hR.alloc _).step hs1 hg1
  clear hs1 hg1
  go_wp2_with fail
  refine (range_any _ _ _ _ (R + 8) (by omega) (by omega) (by omega) hR.str).mono ?_
  rintro e w2 ⟨m, ⟨m1, m2⟩, rfl, hs1, hg1⟩
  replace hR := hR.step hs1 hg1
  clear hs1 hg1
  go_wp2_with fail
  refine (at_any m _ m1 m2).mono ?_
  rintro e w3 ⟨rfl, hb1⟩
  replace hR := hR.below hb1
  clear hb1
  go_wp2_with fail
  refine (range_any _ _ _ _ (R + 7) (by omega) (by omega) (by omega) hR.str).mono ?_
  rintro e w4 ⟨n, ⟨n1, n2⟩, rfl, hs1, hg1⟩
  replace hR := hR.step hs1 hg1
  clear hs1 hg1
  go_wp2_with fail
  refine (at_any n _ n1 n2).mono ?_
  rintro e w5 ⟨rfl, hb1⟩
  replace hR := hR.below hb1
  clear hb1
  have hF := hR.newF (flL pr false 0 (1681915904 + m) false 0 (1681915904 + n) 0 0)
  clear hR
  go_wp2_with fail
  refine (flip_any _ _ _ (R + 6) (by omega) (by omega) hF.r.str).mono ?_
  rintro e w6 ⟨r, rfl, hs1, hg1⟩
  replace hF := hF.step hs1 hg1
  clear hs1 hg1
  generalize w5.heap.size = pa at hF ⊢
  generalize w.heap.size = q at hF ⊢
  have hV : j60 pr ∧ j60 0 ∧ j60 0 := ⟨⟨by omega, by omega⟩, ⟨by omega, by omega⟩, by omega, by omega⟩
  clear hpr
  have hU : U64 0 ∧ U64 (1681915904 + m) ∧ U64 0 ∧ U64 (1681915904 + n) := ⟨⟨by omega, by omega⟩, ⟨by omega, by omega⟩, ⟨by omega, by omega⟩, by omega, by omega⟩
  go_upto_if 15 with fail
  go_cut [] (fun wx => AnyF w b (R + 5) q pa wx)
  case first => as_aux_lemma =>
    cases r
    · go_wp2_with fail
      go_meet
      exact ⟨_, _, _, _, _, _, _, _, _, hU, hV, hF.le (by omega)⟩
    · go_wp2_with fail
      refine (pick_lit_at _ b (R + 5) _ _ [0, 5, 65536] _ _ (by simp) (by simp) hF.r.str (by simp) (by simp) (fun r => 0 ≤ r ∧ r ≤ 65536) (by simp)).mono ?_
      rintro e w7 ⟨k, ⟨k1, k2⟩, rfl, hs1, hg1⟩
      replace hF := (hF.alloc _).step hs1 hg1
      clear hs1 hg1
      obtain ⟨g0, g1, g2, g3, g4, g5, g6, g7, g8⟩ := hF.blk.nineFreeF
      obtain ⟨c0, c1, c2, c3, c4, c5, c6, c7, c8⟩ := hF.blk.nineF
      go_wp2_with fail
      go_meet
      exact ⟨_, _, _, _, _, _, _, _, _, ⟨hU.1, hU.2.1, hU.2.2.1, by omega, by omega⟩, hV, ((hF.set 4 _).set 5 _).set 6 _⟩
  case rest =>
  clear hF hU hV
  obtain ⟨p, fs, fh, fl, ts, th, tl, a, c, hU, hV, hF⟩ := hcut
  go_wp2_with fail
  refine (flip_any _ _ _ (R + 4) (by omega) (by omega) hF.r.str).mono ?_
  rintro e w8 ⟨r, rfl, hs1, hg1⟩
  replace hF := hF.step hs1 hg1
  clear hs1 hg1
  go_upto_if 24 with fail
  go_cut [] (fun wx => AnyF w b (R + 2) q pa wx)
  case first => as_aux_lemma =>
    cases r
    · go_wp2_with fail
      go_meet
      exact ⟨_, _, _, _, _, _, _, _, _, hU, hV, hF.le (by omega)⟩
    · go_wp2_with fail
      refine (range_any _ _ _ _ (R + 3) (by omega) (by omega) (by omega) hF.r.str).mono ?_
      rintro e w9 ⟨k, ⟨k1, k2⟩, rfl, hs1, hg1⟩
      replace hF := hF.step hs1 hg1
      clear hs1 hg1
      go_wp2_with fail
      refine (sixAt_any k _ k1 k2).mono ?_
      rintro e w10 ⟨rfl, hb1⟩
      replace hF := hF.below hb1
      clear hb1
      go_wp2_with fail
      refine (range_any _ _ _ _ (R + 2) (by omega) (by omega) (by omega) hF.r.str).mono ?_
      rintro e w9 ⟨l, ⟨l1, l2⟩, rfl, hs1, hg1⟩
      replace hF := hF.step hs1 hg1
      clear hs1 hg1
      go_wp2_with fail
      refine (sixAt_any l _ l1 l2).mono ?_
      rintro e w10 ⟨rfl, hb1⟩
      replace hF := hF.below hb1
      clear hb1
      obtain ⟨g0, g1, g2, g3, g4, g5, g6, g7, g8⟩ := hF.blk.nineFreeF
      obtain ⟨c0, c1, c2, c3, c4, c5, c6, c7, c8⟩ := hF.blk.nineF
      go_wp2_with fail
      go_meet
      exact ⟨_, _, _, _, _, _, _, _, _, ⟨⟨by omega, by omega⟩, ⟨by omega, by omega⟩, ⟨by omega, by omega⟩, by omega, by omega⟩, hV, ((((((hF.set 1 _).set 2 _).set 3 _).set 4 _).set 5 _).set 6 _)⟩
  case rest =>
  clear hF hU hV
  obtain ⟨p, fs, fh, fl, ts, th, tl, a, c, hU, hV, hF⟩ := hcut
  obtain ⟨c0, c1, c2, c3, c4, c5, c6, c7, c8⟩ := hF.blk.nineF
  by_cases h6 : p = 6
  · subst h6
    go_wp2_with fail
    refine (pick_lit_at _ b (R + 1) _ _ [0, 5000] _ _ (by simp) (by simp) hF.r.str (by simp) (by simp) (fun r => 0 ≤ r ∧ r ≤ 65535) (by simp)).mono ?_
    rintro e w7 ⟨k, hk, rfl, hs1, hg1⟩
    replace hF := (hF.alloc _).step hs1 hg1
    clear hs1 hg1 c0 c1 c2 c3 c4 c5 c6 c7 c8
    go_wp2_with fail
    refine (pick_lit_at _ b R _ _ [0, 22, 79, 80, 85, 90, 91, 100, 443, 65535] _ _ (by simp) (by simp) hF.r.str (by simp) (by simp) (fun r => 0 ≤ r ∧ r ≤ 65535) (by simp)).mono ?_
    rintro e w7 ⟨l, hl, rfl, hs1, hg1⟩
    replace hF := (hF.alloc _).step hs1 hg1
    clear hs1 hg1
    obtain ⟨g0, g1, g2, g3, g4, g5, g6, g7, g8⟩ := hF.blk.nineFreeF
    obtain ⟨c0, c1, c2, c3, c4, c5, c6, c7, c8⟩ := hF.blk.nineF
    obtain ⟨u0, u1, u2, u3, u4, u5, u6, u7, u8⟩ := hF.r.res.nineF
    obtain ⟨f0, f1, f2, f3, f4, f5, f6, f7, f8⟩ := hF.r.res.nineFreeF
    have hW : j60 k ∧ j60 l := ⟨⟨by omega, by omega⟩, by omega, by omega⟩
    have hG : PreF w b R q pa zeroF (flL 6 fs fh fl ts th tl k l) 54 _ := (hF.set 7 (.int .i64 k)).set 8 (.int .i64 l)
    have hlt := hF.lt
    go_wp2_with fail
    refine bodyPost_ret (v := flV 6 fs fh fl ts th tl k l) ?_ rfl ⟨_, fs, fh, fl, ts, th, tl, _, _, hU, ⟨hV.1, hW⟩, rfl, fin9 hG.r.lt.1 hG.r.lt.2 ⟨hG.r.str, hG.r.base⟩ _ _ _ _ _ _ _ _ _⟩
    obtain ⟨u0, u1, u2, u3, u4, u5, u6, u7, u8⟩ := hG.r.res.nineF
    simp [results, Tryz.results103, go_sem, u0, u1, u2, u3, u4, u5, u6, u7, u8]
  by_cases h17 : p = 17
  · subst h17
    go_wp2_with fail
    refine (pick_lit_at _ b (R + 1) _ _ [0, 5000] _ _ (by simp) (by simp) hF.r.str (by simp) (by simp) (fun r => 0 ≤ r ∧ r ≤ 65535) (by simp)).mono ?_
    rintro e w7 ⟨k, hk, rfl, hs1, hg1⟩
    replace hF := (hF.alloc _).step hs1 hg1
    clear hs1 hg1 c0 c1 c2 c3 c4 c5 c6 c7 c8
    go_wp2_with fail
    refine (pick_lit_at _ b R _ _ [0, 22, 79, 80, 85, 90, 91, 100, 443, 65535] _ _ (by simp) (by simp) hF.r.str (by simp) (by simp) (fun r => 0 ≤ r ∧ r ≤ 65535) (by simp)).mono ?_
    rintro e w7 ⟨l, hl, rfl, hs1, hg1⟩
    replace hF := (hF.alloc _).step hs1 hg1
    clear hs1 hg1
    obtain ⟨g0, g1, g2, g3, g4, g5, g6, g7, g8⟩ := hF.blk.nineFreeF
    obtain ⟨c0, c1, c2, c3, c4, c5, c6, c7, c8⟩ := hF.blk.nineF
    obtain ⟨u0, u1, u2, u3, u4, u5, u6, u7, u8⟩ := hF.r.res.nineF
    obtain ⟨f0, f1, f2, f3, f4, f5, f6, f7, f8⟩ := hF.r.res.nineFreeF
    have hW : j60 k ∧ j60 l := ⟨⟨by omega, by omega⟩, by omega, by omega⟩
    have hG : PreF w b R q pa zeroF (flL 17 fs fh fl ts th tl k l) 54 _ := (hF.set 7 (.int .i64 k)).set 8 (.int .i64 l)
    have hlt := hF.lt
    go_wp2_with fail
    refine bodyPost_ret (v := flV 17 fs fh fl ts th tl k l) ?_ rfl ⟨_, fs, fh, fl, ts, th, tl, _, _, hU, ⟨hV.1, hW⟩, rfl, fin9 hG.r.lt.1 hG.r.lt.2 ⟨hG.r.str, hG.r.base⟩ _ _ _ _ _ _ _ _ _⟩
    obtain ⟨u0, u1, u2, u3, u4, u5, u6, u7, u8⟩ := hG.r.res.nineF
    simp [results, Tryz.results103, go_sem, u0, u1, u2, u3, u4, u5, u6, u7, u8]
  have b6 : (p == 6) = false := by simpa using h6
  have b17 : (p == 17) = false := by simpa using h17
  clear h6 h17
  replace hF := hF.le (R' := R) (by omega)
  clear c0 c1 c2 c3 c4 c5 c6 c7 c8
  obtain ⟨c0, c1, c2, c3, c4, c5, c6, c7, c8⟩ := hF.blk.nineF
  obtain ⟨u0, u1, u2, u3, u4, u5, u6, u7, u8⟩ := hF.r.res.nineF
  obtain ⟨g0, g1, g2, g3, g4, g5, g6, g7, g8⟩ := hF.r.res.nineFreeF
  have hlt := hF.lt
  go_wp2_with fail
  refine bodyPost_ret (v := flV p fs fh fl ts th tl a c) ?_ rfl ⟨p, fs, fh, fl, ts, th, tl, a, c, hU, hV, rfl, fin9 hF.r.lt.1 hF.r.lt.2 ⟨hF.r.str, hF.r.base⟩ _ _ _ _ _ _ _ _ _⟩
  simp [results, Tryz.results103, go_sem, u0, u1, u2, u3, u4, u5, u6, u7, u8]

set_option maxHeartbeats 4000000 in
set_option maxRecDepth 100000 in
theorem flow_any (w : World) (b R : Nat) (hs : Str w b (R + 18)) :
    Calls Tryz.prog 57 #[.pointer (some ⟨b, 0, none⟩)] w (FlPost b R w) := by
  have hR := PreR.start hs zeroF 54
  clear hs
  go_enter Tryz.func57, Tryz.ntmps57
  go_wp2_with fail
  refine (rightFlow_any _ b (R + 8) hR.str).mono ?_
  rintro e w1 ⟨p, fs, fh, fl, ts, th, tl, a, c, hU, hV, rfl, hs1, hg1⟩
  replace hR := hR.step hs1 hg1
  have hF := hR.newF (flL p fs fh fl ts th tl a c)
  clear hs1 hg1 hR
  go_wp2_with fail
  refine (flip_any _ _ _ (R + 7) (by omega) (by omega) hF.r.str).mono ?_
  rintro e w6 ⟨r, rfl, hs1, hg1⟩
  replace hF := hF.step hs1 hg1
  clear hs1 hg1
  generalize w1.heap.size = pa at hF ⊢
  generalize w.heap.size = q at hF ⊢
  go_upto_if 7 with fail
  go_cut [] (fun wx => AnyF w b R q pa wx)
  case first => as_aux_lemma =>
    cases r
    · go_wp2_with fail
      go_meet
      exact ⟨_, _, _, _, _, _, _, _, _, hU, hV, hF.le (by omega)⟩
    · go_wp2_with fail
      refine (next_any _ _ _ (R + 6) (by omega) (by omega) hF.r.str).mono ?_
      rintro e w7 ⟨k, ⟨k1, k2⟩, rfl, hs1, hg1⟩
      replace hF := hF.step hs1 hg1
      clear hs1 hg1
      rcases (show k = 0 ∨ k = 1 ∨ k = 2 ∨ k = 3 by omega) with rfl | rfl | rfl | rfl
      · go_wp2_with fail
        refine (odd_any _ _ _ _ R (by omega) (by omega) (by omega) (hF.r.str.le (by omega))).mono ?_
        rintro e w8 ⟨n, hn, rfl, hs1, hg1⟩
        replace hF := hF.step hs1 hg1
        clear hs1 hg1
        obtain ⟨g0, g1, g2, g3, g4, g5, g6, g7, g8⟩ := hF.blk.nineFreeF
        obtain ⟨c0, c1, c2, c3, c4, c5, c6, c7, c8⟩ := hF.blk.nineF
        go_wp2_with fail
        go_meet
        exact ⟨_, _, _, _, _, _, _, _, _, hU, ⟨⟨by omega, by omega⟩, hV.2⟩, hF.set 0 _⟩
      · go_wp2_with fail
        refine (raw_any _ _ R (hF.r.str.le (by omega))).mono ?_
        rintro e w8 ⟨xs, xh, xl, hx, rfl, hs1, hg1⟩
        replace hF := hF.step hs1 hg1
        clear hs1 hg1
        obtain ⟨g0, g1, g2, g3, g4, g5, g6, g7, g8⟩ := hF.blk.nineFreeF
        obtain ⟨c0, c1, c2, c3, c4, c5, c6, c7, c8⟩ := hF.blk.nineF
        go_wp2_with fail
        go_meet
        exact ⟨_, _, _, _, _, _, _, _, _, ⟨hx.1, hx.2, hU.2.2⟩, hV, ((hF.set 1 _).set 2 _).set 3 _⟩
      · go_wp2_with fail
        refine (odd_any _ _ _ _ R (by omega) (by omega) (by omega) (hF.r.str.le (by omega))).mono ?_
        rintro e w8 ⟨n, hn, rfl, hs1, hg1⟩
        replace hF := hF.step hs1 hg1
        clear hs1 hg1
        obtain ⟨g0, g1, g2, g3, g4, g5, g6, g7, g8⟩ := hF.blk.nineFreeF
        obtain ⟨c0, c1, c2, c3, c4, c5, c6, c7, c8⟩ := hF.blk.nineF
        go_wp2_with fail
        go_meet
        exact ⟨_, _, _, _, _, _, _, _, _, hU, ⟨hV.1, hV.2.1, by omega, by omega⟩, hF.set 8 _⟩
      · go_wp2_with fail
        refine (odd_any _ _ _ _ R (by omega) (by omega) (by omega) (hF.r.str.le (by omega))).mono ?_
        rintro e w8 ⟨n, hn, rfl, hs1, hg1⟩
        replace hF := hF.step hs1 hg1
        clear hs1 hg1
        obtain ⟨g0, g1, g2, g3, g4, g5, g6, g7, g8⟩ := hF.blk.nineFreeF
        obtain ⟨c0, c1, c2, c3, c4, c5, c6, c7, c8⟩ := hF.blk.nineF
        go_wp2_with fail
        go_meet
        exact ⟨_, _, _, _, _, _, _, _, _, hU, ⟨hV.1, ⟨by omega, by omega⟩, hV.2.2⟩, hF.set 7 _⟩
  case rest =>
  clear hF hU hV
  obtain ⟨p, fs, fh, fl, ts, th, tl, a, c, hU, hV, hF⟩ := hcut
  obtain ⟨c0, c1, c2, c3, c4, c5, c6, c7, c8⟩ := hF.blk.nineF
  obtain ⟨u0, u1, u2, u3, u4, u5, u6, u7, u8⟩ := hF.r.res.nineF
  obtain ⟨g0, g1, g2, g3, g4, g5, g6, g7, g8⟩ := hF.r.res.nineFreeF
  have hlt := hF.lt
  go_wp2_with fail
  refine bodyPost_ret (v := flV p fs fh fl ts th tl a c) ?_ rfl ⟨p, fs, fh, fl, ts, th, tl, a, c, hU, hV, rfl, fin9 hF.r.lt.1 hF.r.lt.2 ⟨hF.r.str, hF.r.base⟩ _ _ _ _ _ _ _ _ _⟩
  simp [results, Tryz.results57, go_sem, u0, u1, u2, u3, u4, u5, u6, u7, u8]

end Go.Proofs.YtfiocnjogbpgoaaGreatDoor
