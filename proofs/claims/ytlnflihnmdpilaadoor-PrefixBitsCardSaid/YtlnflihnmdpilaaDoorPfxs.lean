/- PrefixBits: CheckPrefix, Mask, Last, Contains, Inside and Common are as specified. -/
import Derived.Test.YtlnflihnmdpilaaDoorPfxH
import Derived.Test.YtlnflihnmdpilaaDoorLaneC
import Derived.Test.YtlnflihnmdpilaaDoorLaneD
import Derived.Test.YtlnflihnmdpilaaDoorAddressed
namespace Go.Proofs.YtlnflihnmdpilaaDoor
open Go.RowKit
set_option linter.unusedVariables false
set_option linter.unusedSimpArgs false

/-- Six blocks; nothing older has turned since w0. -/
structure Hexa (w0 : World) (q4 q5 q6 q8 q10 q16 : Nat) (P Q A M X K : List Value) (w : World) : Prop where
  p : Blk w q4 P 42
  q : Blk w q5 Q 42
  a : Blk w q6 A 28
  m : Blk w q8 M 42
  x : Blk w q10 X 28
  k : Blk w q16 K 42
  base : Below w0.heap.size w0 w
theorem Hexa.below {w0 w w' : World} {q4 q5 q6 q8 q10 q16 : Nat} {P Q A M X K : List Value} (h : Hexa w0 q4 q5 q6 q8 q10 q16 P Q A M X K w) (hb : Below w.heap.size w w') : Hexa w0 q4 q5 q6 q8 q10 q16 P Q A M X K w' :=
  ⟨h.p.below hb, h.q.below hb, h.a.below hb, h.m.below hb, h.x.below hb, h.k.below hb, h.base.trans (hb.mono h.base.size)⟩
theorem Hexa.alloc {w0 w : World} {q4 q5 q6 q8 q10 q16 : Nat} {P Q A M X K : List Value} (h : Hexa w0 q4 q5 q6 q8 q10 q16 P Q A M X K w) (o : Obj) : Hexa w0 q4 q5 q6 q8 q10 q16 P Q A M X K (w.alloc o) :=
  h.below (.alloc (.refl _ _) (Nat.le_refl _) _)

theorem maskOf_two (s : Bool) (hi lo b : Int) (h1 : 0 ≤ hi) (h2 : hi < 18446744073709551616) (h3 : 0 ≤ lo) (h4 : lo < 18446744073709551616) (hb1 : 0 ≤ b) (hb2 : b ≤ 32) :
    ∃ MH ML, (∀ w', Hid (Calls Tryd.prog 18 #[.agg #[.bool s, .int .u64 hi, .int .u64 lo], .int .i64 b] w' (GivesV (.agg #[.bool s, .int .u64 MH, .int .u64 ML, .int .i64 b]) w'))) ∧
      (0 ≤ MH ∧ MH < 18446744073709551616) ∧ (0 ≤ ML ∧ ML < 18446744073709551616) := by
  have hl : (32 : Int) ≤ lenZ s := by cases s <;> simp [lenZ]
  have hV := clr_lt (k := (lenZ s - b).toNat) (num_lt h2 h4)
  exact ⟨_, _, fun w' => Lib.hid (maskOf_any s hi lo b w' h1 h2 h3 h4 hb1 (by omega)), (halves_lt _ hV).1, (halves_lt _ hV).2⟩

set_option linter.unusedSimpArgs false in
set_option maxRecDepth 100000 in
set_option maxHeartbeats 100000000 in
theorem prefixBits_walk (a : Option Addr) (len cap : Nat) (w : World) (hs : Str (w.alloc (.cells #[.slice a len cap, .int .i64 0] 25)) w.heap.size 1000) :
    Calls Tryd.prog 4 #[.slice a len cap] w fun e w' => e = .returned (.bool true) ∧ Below w.heap.size w w' := by
  have hB0 : Below w.heap.size w (w.alloc (.cells #[.slice a len cap, .int .i64 0] 25)) := (Below.refl _ _).alloc (Nat.le_refl _) _
  go_enter Tryd.func4, Tryd.ntmps4
  go_wp2_with fail
  refine (prefix_any _ _ 986 hs).mono ?_
  rintro e w1 ⟨s, hi, lo, n, ⟨⟨h1, h2⟩, ⟨h3, h4⟩, hn1, hn2⟩, rfl, hs1, hg1⟩
  have hC1 : Below w.heap.size w w1 := hB0.trans (gb_toBelow hg1 (Nat.le_refl _) (by simp))
  clear hs hB0 hg1
  go_wp2_with fail
  refine (prefix_any _ _ 972 hs1).mono ?_
  rintro e w2 ⟨qs, qh, ql, qm, ⟨⟨v1, v2⟩, ⟨v3, v4⟩, vn1, vn2⟩, rfl, hs2, hg2⟩
  have hC2 : Below w.heap.size w w2 := hC1.trans (gb_toBelow hg2 (Nat.le_refl _) (by have := hs1.lt; omega))
  clear hs1 hC1 hg2
  go_wp2_with fail
  refine (raw_any _ _ 966 hs2).mono ?_
  rintro e w3 ⟨t, h, l, ⟨⟨k1, k2⟩, ⟨k3, k4⟩⟩, rfl, hs3, hg3⟩
  have hC3 : Below w.heap.size w w3 := hC2.trans (gb_toBelow hg3 (Nat.le_refl _) (by have := hs2.lt; omega))
  clear hs2 hC2 hg3
  go_wp2_with fail
  refine (odd_any _ _ _ _ 964 (by omega) (by omega) (by omega) hs3).mono ?_
  rintro e w4 ⟨b, ⟨b1, b2⟩, rfl, hs4, hg4⟩
  have hC4 : Below w.heap.size w w4 := hC3.trans (gb_toBelow hg4 (Nat.le_refl _) (by have := hs3.lt; omega))
  clear hs3 hC3 hg4
  obtain ⟨hX1, hX2, hX3⟩ := blk3 w4 [.bool s, .int .u64 hi, .int .u64 lo, .int .i64 n] [.bool qs, .int .u64 qh, .int .u64 ql, .int .i64 qm] [.bool t, .int .u64 h, .int .u64 l] 42 42 28
  have hS := ((hs4.alloc (.cells #[.bool s, .int .u64 hi, .int .u64 lo, .int .i64 n] 42)).alloc (.cells #[.bool qs, .int .u64 qh, .int .u64 ql, .int .i64 qm] 42)).alloc (.cells #[.bool t, .int .u64 h, .int .u64 l] 28)
  have hY := hC4.trans ((below_3 w4 (.cells #[.bool s, .int .u64 hi, .int .u64 lo, .int .i64 n] 42) (.cells #[.bool qs, .int .u64 qh, .int .u64 ql, .int .i64 qm] 42) (.cells #[.bool t, .int .u64 h, .int .u64 l] 28)).mono hC4.size)
  have hlt : w.heap.size < w4.heap.size := hs4.lt
  clear hs4 hC4
  go_upto_region 3 with fail
  generalize w4.heap.size = q4 at hX1 hX2 hX3 hlt ⊢
  replace hX3 : Blk _ (q4 + 1 + 1) _ _ := hX3
  generalize hq5 : q4 + 1 = q5 at hX2 hX3 ⊢
  generalize hq6 : q5 + 1 = q6 at hX3 ⊢
  have l45 : q4 < q5 := by omega
  have l56 : q5 < q6 := by omega
  have hlt5 : w.heap.size < q5 := by omega
  have hlt6 : w.heap.size < q6 := by omega
  clear hq5 hq6
  go_wp2_with fail
  refine (flip_any _ _ _ 963 (by omega) (by omega) hS).mono ?_
  rintro e w5 ⟨r, rfl, hs5, hg5⟩
  have hX1 := hX1.gb hg5 hlt
  have hX2 := hX2.gb hg5 hlt5
  have hX3 := hX3.gb hg5 hlt6
  have hY := hY.trans (gb_toBelow hg5 (Nat.le_refl _) (by have := hS.lt; omega))
  clear hS hg5
  go_upto_if 35 with fail
  go_cut [] (fun wx => ∃ qs qh ql qm, (0 ≤ qh ∧ qh < 18446744073709551616) ∧ (0 ≤ ql ∧ ql < 18446744073709551616) ∧ Blk wx q4 [.bool s, .int .u64 hi, .int .u64 lo, .int .i64 n] 42 ∧ Blk wx q5 [.bool qs, .int .u64 qh, .int .u64 ql, .int .i64 qm] 42 ∧ Blk wx q6 [.bool t, .int .u64 h, .int .u64 l] 28 ∧ Below w.heap.size w wx)
  case first => as_aux_lemma =>
    cases r
    · go_wp2_with fail
      go_meet
      exact ⟨qs, qh, ql, qm, ⟨v1, v2⟩, ⟨v3, v4⟩, hX1, hX2, hX3, hY⟩
    · obtain ⟨c0, c1, c2, c3, _⟩ := hX1.four
      go_wp2_with fail
      go_region_held3 (fun w' => w'.cell? ⟨q4, 0, none⟩ = some (.bool s) ∧ w'.cell? ⟨q4, 1, none⟩ = some (.int .u64 hi) ∧ w'.cell? ⟨q4, 2, none⟩ = some (.int .u64 lo) ∧ w'.cell? ⟨q4, 3, none⟩ = some (.int .i64 n)) (first | exact ⟨c0, c1, c2, c3⟩ | exact ⟨d0, d1, d2, d3⟩ | exact ⟨e0, e1, e2, e3⟩ | exact ⟨((((hX17.other (a := ⟨q5, 0, none⟩) (Nat.ne_of_lt l45) _).other (a := ⟨q5, 1, none⟩) (Nat.ne_of_lt l45) _).other (a := ⟨q5, 2, none⟩) (Nat.ne_of_lt l45) _).other (a := ⟨q5, 3, none⟩) (Nat.ne_of_lt l45) _).four.1, ((((hX17.other (a := ⟨q5, 0, none⟩) (Nat.ne_of_lt l45) _).other (a := ⟨q5, 1, none⟩) (Nat.ne_of_lt l45) _).other (a := ⟨q5, 2, none⟩) (Nat.ne_of_lt l45) _).other (a := ⟨q5, 3, none⟩) (Nat.ne_of_lt l45) _).four.2.1, ((((hX17.other (a := ⟨q5, 0, none⟩) (Nat.ne_of_lt l45) _).other (a := ⟨q5, 1, none⟩) (Nat.ne_of_lt l45) _).other (a := ⟨q5, 2, none⟩) (Nat.ne_of_lt l45) _).other (a := ⟨q5, 3, none⟩) (Nat.ne_of_lt l45) _).four.2.2.1, ((((hX17.other (a := ⟨q5, 0, none⟩) (Nat.ne_of_lt l45) _).other (a := ⟨q5, 1, none⟩) (Nat.ne_of_lt l45) _).other (a := ⟨q5, 2, none⟩) (Nat.ne_of_lt l45) _).other (a := ⟨q5, 3, none⟩) (Nat.ne_of_lt l45) _).four.2.2.2.1⟩)
        (first
          | (go_at_call 19; refine (range_any _ _ _ _ 962 (by omega) (by omega) (by omega) (by first | exact hs5.drew | exact hs5)).mono ?_; rintro e w6 ⟨r6, ⟨hr1, hr2⟩, rfl, hs6, hg6⟩; have hX16 := Blk.gb (by first | exact hX1.drew | exact hX1) hg6 hlt; have hX26 := Blk.gb (by first | exact hX2.drew | exact hX2) hg6 hlt5; have hX36 := Blk.gb (by first | exact hX3.drew | exact hX3) hg6 hlt6; have hY6 := Below.trans (by first | exact hY.drew | exact hY) (gb_toBelow hg6 (Nat.le_refl _) (by have := hs5.lt; first | omega | (simp; omega))); obtain ⟨d0, d1, d2, d3, _⟩ := hX16.four; have hN : IntKind.i64.wrap (n - r6) = n - r6 := IntWalk.i64_in _ (by omega))
          | (go_at_call 18; obtain ⟨MH, ML, HM, hM1, hM2⟩ := maskOf_two s hi lo (max 0 (min 32 (n - r6))) h1 h2 h3 h4 (by omega) (by omega); refine (HM _).out.mono ?_; rintro e w7 ⟨rfl, hb7⟩; have hX17 := hX16.below hb7; have hX27 := hX26.below hb7; have hX37 := hX36.below hb7; have hY7 := hY6.trans (hb7.mono hY6.size); obtain ⟨e0, e1, e2, e3, _⟩ := hX17.four; obtain ⟨_, _, _, _, f0, f1, f2, f3⟩ := hX27.four))
      all_goals (go_wp2_with fail; go_meet)
      all_goals exact ⟨s, MH, ML, _, hM1, hM2, (((hX17.other (a := ⟨q5, 0, none⟩) (Nat.ne_of_lt l45) _).other (a := ⟨q5, 1, none⟩) (Nat.ne_of_lt l45) _).other (a := ⟨q5, 2, none⟩) (Nat.ne_of_lt l45) _).other (a := ⟨q5, 3, none⟩) (Nat.ne_of_lt l45) _,
        (((hX27.set 0 _).set 1 _).set 2 _).set 3 _, (((hX37.other (a := ⟨q5, 0, none⟩) (Nat.ne_of_gt l56) _).other (a := ⟨q5, 1, none⟩) (Nat.ne_of_gt l56) _).other (a := ⟨q5, 2, none⟩) (Nat.ne_of_gt l56) _).other (a := ⟨q5, 3, none⟩) (Nat.ne_of_gt l56) _,
        (((hY7.setCell (p := ⟨q5, 0, none⟩) (Nat.le_of_lt hlt5) _).setCell (p := ⟨q5, 1, none⟩) (Nat.le_of_lt hlt5) _).setCell (p := ⟨q5, 2, none⟩) (Nat.le_of_lt hlt5) _).setCell (p := ⟨q5, 3, none⟩) (Nat.le_of_lt hlt5) _⟩
  case rest =>
    clear hX1 hX2 hX3 hY hs5 v1 v2 v3 v4
    obtain ⟨qs, qh, ql, qm, ⟨v1, v2⟩, ⟨v3, v4⟩, hX1, hX2, hX3, hY⟩ := hcut
    obtain ⟨ms, mh, ml, mn, HMa, HMb⟩ := mask_both t h l b k1 k2 k3 k4
    obtain ⟨xs, xh, xl, HLa, HLb⟩ := last_both s hi lo n h1 h2 h3 h4
    obtain ⟨cc, HCa, HCb⟩ := cont_both s hi lo n t h l h1 h2 h3 h4 k1 k2 k3 k4
    obtain ⟨ic, HIa, HIb⟩ := ins_both s hi lo n qs qh ql qm h1 h2 h3 h4 v1 v2 v3 v4
    obtain ⟨ks, kh, kl, kn, HKa, HKb, HKz⟩ := com_both s hi lo n qs qh ql qm h1 h2 h3 h4 v1 v2 v3 v4
    have GMb := Lib.hid HMb
    have GLb := Lib.hid HLb
    have GCb := Lib.hid HCb
    have GIb := Lib.hid HIb
    have GKb := Lib.hid HKb
    have GKz := Lib.hid HKz
    clear HMb HLb HCb HIb HKb HKz
    obtain ⟨a0, a1, a2, _⟩ := hX3.three
    go_wp2_with fail
    refine (HMa _).out.mono ?_
    rintro e y1 ⟨rfl, hb1⟩
    have hX1 := (hX1.below hb1).alloc (.cells #[.bool ms, .int .u64 mh, .int .u64 ml, .int .i64 mn] 42)
    have hX2 := (hX2.below hb1).alloc (.cells #[.bool ms, .int .u64 mh, .int .u64 ml, .int .i64 mn] 42)
    have hX3 := (hX3.below hb1).alloc (.cells #[.bool ms, .int .u64 mh, .int .u64 ml, .int .i64 mn] 42)
    have hY' := hY.trans (hb1.mono hY.size)
    have hY := hY'.alloc hY'.size (.cells #[.bool ms, .int .u64 mh, .int .u64 ml, .int .i64 mn] 42)
    have hM := Blk.new y1 [.bool ms, .int .u64 mh, .int .u64 ml, .int .i64 mn] 42
    clear hb1 hY' a0 a1 a2
    go_upto_region 6 with fail
    generalize y1.heap.size = q8 at hM ⊢
    obtain ⟨c0, c1, c2, c3, _⟩ := hX1.four
    go_wp2_with fail
    refine (HLa _).out.mono ?_
    rintro e y2 ⟨rfl, hb1⟩
    have hX1 := (hX1.below hb1).alloc (.cells #[.bool xs, .int .u64 xh, .int .u64 xl] 28)
    have hX2 := (hX2.below hb1).alloc (.cells #[.bool xs, .int .u64 xh, .int .u64 xl] 28)
    have hX3 := (hX3.below hb1).alloc (.cells #[.bool xs, .int .u64 xh, .int .u64 xl] 28)
    have hM := (hM.below hb1).alloc (.cells #[.bool xs, .int .u64 xh, .int .u64 xl] 28)
    have hY' := hY.trans (hb1.mono hY.size)
    have hY := hY'.alloc hY'.size (.cells #[.bool xs, .int .u64 xh, .int .u64 xl] 28)
    have hXx := Blk.new y2 [.bool xs, .int .u64 xh, .int .u64 xl] 28
    clear hb1 hY' c0 c1 c2 c3
    go_upto_region 7 with fail
    generalize y2.heap.size = q10 at hXx ⊢
    obtain ⟨c0, c1, c2, c3, _⟩ := hX1.four
    obtain ⟨a0, a1, a2, _⟩ := hX3.three
    go_wp2_with fail
    refine (HCa _).out.mono ?_
    rintro e y3 ⟨rfl, hb1⟩
    have hX1 := hX1.below hb1
    have hX2 := hX2.below hb1
    have hX3 := hX3.below hb1
    have hM := hM.below hb1
    have hXx := hXx.below hb1
    have hY := hY.trans (hb1.mono hY.size)
    clear hb1 c0 c1 c2 c3 a0 a1 a2
    obtain ⟨c0, c1, c2, c3, _⟩ := hX1.four
    obtain ⟨d0, d1, d2, d3, _⟩ := hX2.four
    go_wp2_with fail
    refine (HIa _).out.mono ?_
    rintro e y4 ⟨rfl, hb1⟩
    have hX1 := hX1.below hb1
    have hX2 := hX2.below hb1
    have hX3 := hX3.below hb1
    have hM := hM.below hb1
    have hXx := hXx.below hb1
    have hY := hY.trans (hb1.mono hY.size)
    clear hb1 c0 c1 c2 c3 d0 d1 d2 d3
    obtain ⟨c0, c1, c2, c3, _⟩ := hX1.four
    obtain ⟨d0, d1, d2, d3, _⟩ := hX2.four
    go_wp2_with fail
    refine (HKa _).out.mono ?_
    rintro e y5 ⟨rfl, hb1⟩
    have hH5 : ∀ q16, q16 = y5.heap.size → Hexa w q4 q5 q6 q8 q10 q16 [.bool s, .int .u64 hi, .int .u64 lo, .int .i64 n] [.bool qs, .int .u64 qh, .int .u64 ql, .int .i64 qm] [.bool t, .int .u64 h, .int .u64 l] [.bool ms, .int .u64 mh, .int .u64 ml, .int .i64 mn] [.bool xs, .int .u64 xh, .int .u64 xl] [.bool ks, .int .u64 kh, .int .u64 kl, .int .i64 kn] (y5.alloc (.cells #[.bool ks, .int .u64 kh, .int .u64 kl, .int .i64 kn] 42)) := fun q16 hq => by
      subst hq
      exact ⟨(hX1.below hb1).alloc _, (hX2.below hb1).alloc _, (hX3.below hb1).alloc _, (hM.below hb1).alloc _, (hXx.below hb1).alloc _, Blk.new y5 [.bool ks, .int .u64 kh, .int .u64 kl, .int .i64 kn] 42, (hY.trans (hb1.mono hY.size)).alloc (hY.trans (hb1.mono hY.size)).size _⟩
    clear hb1 c0 c1 c2 c3 d0 d1 d2 d3 hX1 hX2 hX3 hM hXx hY
    go_upto_region 10 with fail
    generalize hq16 : y5.heap.size = q16 at hH5 ⊢
    have hH := hH5 q16 rfl
    clear hH5 hq16
    have HE := Lib.hid (show firstZ [pfF s hi lo n, pfF qs qh ql qm] = twE s hi lo n qs qh ql qm from rfl)
    have hB := gb_refl (y5.alloc (.cells #[.bool ks, .int .u64 kh, .int .u64 kl, .int .i64 kn] 42)) none
    have HF : Hid (∀ u, (y5.alloc (.cells #[.bool ks, .int .u64 kh, .int .u64 kl, .int .i64 kn] 42)).grownBy u none → _) := Lib.hid fun u hu => And.intro (hH.p.gn hu).four (hH.q.gn hu).four
    go_cut [18, 19] (fun s18 s19 wx => s18 = .int .i64 (pfF s hi lo n) ∧ s19 = .int .i64 (twE s hi lo n qs qh ql qm) ∧ Hexa w q4 q5 q6 q8 q10 q16 [.bool s, .int .u64 hi, .int .u64 lo, .int .i64 n] [.bool qs, .int .u64 qh, .int .u64 ql, .int .i64 qm] [.bool t, .int .u64 h, .int .u64 l] [.bool ms, .int .u64 mh, .int .u64 ml, .int .i64 mn] [.bool xs, .int .u64 xh, .int .u64 xl] [.bool ks, .int .u64 kh, .int .u64 kl, .int .i64 kn] wx)
    case first => as_aux_lemma =>
      refine ways_begin (none) (by kernel_rfl) ?_
      replace hB := gb_drew hB
      refine ways_take (i := 0) (d := some 75) (v := ?_) (by simp only [List.getElem?_toArray, List.getElem?_cons_succ, List.getElem?_cons_zero] <;> rfl) (by rfl) (by kernel_rfl) (by kernel_rfl) (by kernel_rfl) (fun _ _ _ h => h) (by rfl) ?_ ?_
      rotate_left
      · ((intro u hu); obtain ⟨⟨c0, c1, c2, c3, _⟩, ⟨d0, d1, d2, d3, _⟩⟩ := HF.out u (gb_trans hB hu); go_simp; try with_reducible rfl)
      try simp only [Act.put, List.setIfInBounds_toArray, List.set_cons_zero, List.set_cons_succ]
      refine ways_take (i := 2) (d := some 77) (v := ?_) (by simp only [List.getElem?_toArray, List.getElem?_cons_succ, List.getElem?_cons_zero] <;> rfl) (by rfl) (by kernel_rfl) (by kernel_rfl) (by kernel_rfl) (fun _ _ _ h => h) (by rfl) ?_ ?_
      rotate_left
      · ((intro u hu); obtain ⟨⟨c0, c1, c2, c3, _⟩, ⟨d0, d1, d2, d3, _⟩⟩ := HF.out u (gb_trans hB hu); go_simp; try with_reducible rfl)
      try simp only [Act.put, List.setIfInBounds_toArray, List.set_cons_zero, List.set_cons_succ]
      refine ways_take (i := 4) (d := some 79) (v := ?_) (by simp only [List.getElem?_toArray, List.getElem?_cons_succ, List.getElem?_cons_zero] <;> rfl) (by rfl) (by kernel_rfl) (by kernel_rfl) (by kernel_rfl) (fun _ _ _ h => h) (by rfl) ?_ ?_
      rotate_left
      · ((intro u hu); obtain ⟨⟨c0, c1, c2, c3, _⟩, ⟨d0, d1, d2, d3, _⟩⟩ := HF.out u (gb_trans hB hu); go_simp; try with_reducible rfl)
      try simp only [Act.put, List.setIfInBounds_toArray, List.set_cons_zero, List.set_cons_succ]
      refine ways_one (i := 1) (by simp only [List.getElem?_toArray, List.getElem?_cons_succ, List.getElem?_cons_zero] <;> rfl) (by kernel_rfl) (by rfl) (fun u hu K hK => ?_)
      replace hB := gb_trans hB hu
      go_simp
      refine (prefixFault_any _ _ _ _ _ h1 h2 h3 h4).mono ?_
      rintro e w101 ⟨rfl, hb1⟩
      have hg1 := gbB (r := none) hb1
      refine hK.out _ _ hg1 ?_
      replace hB := gb_trans hB hg1
      clear hK K hu
      try simp only [Act.put, List.setIfInBounds_toArray, List.set_cons_zero, List.set_cons_succ]
      refine ways_one (i := 3) (by simp only [List.getElem?_toArray, List.getElem?_cons_succ, List.getElem?_cons_zero] <;> rfl) (by kernel_rfl) (by rfl) (fun u hu K hK => ?_)
      replace hB := gb_trans hB hu
      go_simp
      refine (prefixFault_any _ _ _ _ _ h1 h2 h3 h4).mono ?_
      rintro e w103 ⟨rfl, hb3⟩
      have hg3 := gbB (r := none) hb3
      refine hK.out _ _ hg3 ?_
      replace hB := gb_trans hB hg3
      clear hK K hu
      try simp only [Act.put, List.setIfInBounds_toArray, List.set_cons_zero, List.set_cons_succ]
      refine ways_one (i := 5) (by simp only [List.getElem?_toArray, List.getElem?_cons_succ, List.getElem?_cons_zero] <;> rfl) (by kernel_rfl) (by rfl) (fun u hu K hK => ?_)
      replace hB := gb_trans hB hu
      go_simp
      refine (prefixFault_any _ _ _ _ _ v1 v2 v3 v4).mono ?_
      rintro e w105 ⟨rfl, hb5⟩
      have hg5 := gbB (r := none) hb5
      refine hK.out _ _ hg5 ?_
      replace hB := gb_trans hB hg5
      clear hK K hu
      try simp only [Act.put, List.setIfInBounds_toArray, List.set_cons_zero, List.set_cons_succ]
      refine ways_one (i := 6) (by simp only [List.getElem?_toArray, List.getElem?_cons_succ, List.getElem?_cons_zero] <;> rfl) (by kernel_rfl) (by rfl) (fun u hu K hK => ?_)
      replace hB := gb_trans hB hu
      go_simp
      refine hK.out _ _ (World.grownBy_alloc _ _ _) ?_
      clear hK K hu
      try simp only [Act.put, List.setIfInBounds_toArray, List.set_cons_zero, List.set_cons_succ]
      refine ways_one (i := 7) (by simp only [List.getElem?_toArray, List.getElem?_cons_succ, List.getElem?_cons_zero] <;> rfl) (by kernel_rfl) (by rfl) (fun u hu K hK => ?_)
      replace hB := gb_trans hB (gb_trans (World.grownBy_alloc _ _ _) hu)
      go_simp
      refine (errs_after [pfF s hi lo n, pfF qs qh ql qm] _ (by simp) (by simp) hu).mono ?_
      rintro e w107 ⟨rfl, rfl⟩
      have hg7 := gb_refl u (none)
      refine hK.out _ _ hg7 ?_
      replace hB := gb_trans hB hg7
      clear hK K hu
      try simp only [Act.put, List.setIfInBounds_toArray, List.set_cons_zero, List.set_cons_succ]
      refine ways_take (i := 8) (d := some 18) (v := ?_) (by simp only [List.getElem?_toArray, List.getElem?_cons_succ, List.getElem?_cons_zero] <;> rfl) (by rfl) (by kernel_rfl) (by kernel_rfl) (by kernel_rfl) (fun _ _ _ h => h) (by rfl) ?_ ?_
      rotate_left
      · ((intro u hu); go_simp; try with_reducible rfl)
      try simp only [Act.put, List.setIfInBounds_toArray, List.set_cons_zero, List.set_cons_succ]
      refine ways_take (i := 9) (d := some 19) (v := ?_) (by simp only [List.getElem?_toArray, List.getElem?_cons_succ, List.getElem?_cons_zero] <;> rfl) (by rfl) (by kernel_rfl) (by kernel_rfl) (by kernel_rfl) (fun _ _ _ h => h) (by rfl) ?_ ?_
      rotate_left
      · ((intro u hu); go_simp; try with_reducible rfl)
      try simp only [Act.put, List.setIfInBounds_toArray, List.set_cons_zero, List.set_cons_succ]
      refine ways_done (by kernel_rfl) (fun u hu => ?_) _
      replace hB := gb_trans hB hu
      clear hu
      rw [HE.out]
      go_wp2_with fail
      go_meet
      exact ⟨rfl, rfl, hH.below (gb2B hB)⟩
    case rest =>
      obtain ⟨rfl, rfl, hH1⟩ := hcut
      clear hH HE hB HF HMa HLa HCa HIa HKa
      obtain ⟨a0, a1, a2, _⟩ := hH1.a.three
      go_upto_if 84 with fail
      go_cut [20] (fun s20 wx => s20 = .int .i64 (lenZ t) ∧ Hexa w q4 q5 q6 q8 q10 q16 [.bool s, .int .u64 hi, .int .u64 lo, .int .i64 n] [.bool qs, .int .u64 qh, .int .u64 ql, .int .i64 qm] [.bool t, .int .u64 h, .int .u64 l] [.bool ms, .int .u64 mh, .int .u64 ml, .int .i64 mn] [.bool xs, .int .u64 xh, .int .u64 xl] [.bool ks, .int .u64 kh, .int .u64 kl, .int .i64 kn] wx)
      case first => as_aux_lemma =>
        cases t
        · go_wp2_with fail
          go_meet
          exact ⟨rfl, hH1⟩
        · go_wp2_with fail
          go_meet
          exact ⟨rfl, hH1⟩
      case rest =>
        clear hH1 a0 a1 a2
        obtain ⟨rfl, hH1⟩ := hcut
        go_upto_region 14 with fail
        go_cut [21] (fun s21 wx => s21 = .int .i64 (maE t h l b) ∧ Hexa w q4 q5 q6 q8 q10 q16 [.bool s, .int .u64 hi, .int .u64 lo, .int .i64 n] [.bool qs, .int .u64 qh, .int .u64 ql, .int .i64 qm] [.bool t, .int .u64 h, .int .u64 l] [.bool ms, .int .u64 mh, .int .u64 ml, .int .i64 mn] [.bool xs, .int .u64 xh, .int .u64 xl] [.bool ks, .int .u64 kh, .int .u64 kl, .int .i64 kn] wx)
        case first => as_aux_lemma =>
          obtain ⟨a0, a1, a2, _⟩ := hH1.a.three
          have hO : outB b t = decide (b < 0 ∨ lenZ t < b) := rfl
          have hk : b < 0 ∨ (¬ b < 0 ∧ lenZ t < b) ∨ (¬ b < 0 ∧ ¬ lenZ t < b) := by omega
          rcases hk with g | ⟨g, g'⟩ | ⟨g, g'⟩
          · have HO := Lib.hid (hO.trans (decide_eq_true (.inl g)))
            clear hO
            go_wp2_with fail
            refine (addrFault_any _ _ _ _ k1).mono ?_
            rintro e z1 ⟨rfl, hb1⟩
            have hH1 := hH1.below hb1
            clear hb1 a0 a1 a2
            go_wp2_with fail
            refine (when_any _ _ _).mono ?_
            rintro e z2 ⟨rfl, rfl⟩
            go_wp2_with fail
            refine (errs_after [adF t h l, whenZ true 1] _ (by simp) (by simp) (gb_refl _ none)).mono ?_
            rintro e z3 ⟨rfl, rfl⟩
            go_wp2_with fail
            go_meet
            exact ⟨by unfold maE; rw [HO.out], hH1.alloc _⟩
          · have HO := Lib.hid (hO.trans (decide_eq_true (.inr g')))
            clear hO
            go_wp2_with fail
            refine (addrFault_any _ _ _ _ k1).mono ?_
            rintro e z1 ⟨rfl, hb1⟩
            have hH1 := hH1.below hb1
            clear hb1 a0 a1 a2
            go_wp2_with fail
            refine (when_any _ _ _).mono ?_
            rintro e z2 ⟨rfl, rfl⟩
            go_wp2_with fail
            refine (errs_after [adF t h l, whenZ true 1] _ (by simp) (by simp) (gb_refl _ none)).mono ?_
            rintro e z3 ⟨rfl, rfl⟩
            go_wp2_with fail
            go_meet
            exact ⟨by unfold maE; rw [HO.out], hH1.alloc _⟩
          · have HO := Lib.hid (hO.trans (decide_eq_false (by omega)))
            have hd : decide (lenZ t < b) = false := decide_eq_false g'
            have hd0 : decide (b < 0) = false := decide_eq_false g
            clear hO
            go_wp2_with fail
            refine (addrFault_any _ _ _ _ k1).mono ?_
            rintro e z1 ⟨rfl, hb1⟩
            have hH1 := hH1.below hb1
            clear hb1 a0 a1 a2
            go_wp2_with fail
            refine (when_any _ _ _).mono ?_
            rintro e z2 ⟨rfl, rfl⟩
            go_wp2_with fail
            refine (errs_after [adF t h l, whenZ false 1] _ (by simp) (by simp) (gb_refl _ none)).mono ?_
            rintro e z3 ⟨rfl, rfl⟩
            go_wp2_with fail
            go_meet
            exact ⟨by unfold maE; rw [HO.out], hH1.alloc _⟩
        case rest =>
          clear hH1
          obtain ⟨rfl, hH1⟩ := hcut
          go_upto_region 15 with fail
          go_cut [22] (fun s22 wx => s22 = .int .i64 (cmE s hi lo n qs qh ql qm) ∧ Hexa w q4 q5 q6 q8 q10 q16 [.bool s, .int .u64 hi, .int .u64 lo, .int .i64 n] [.bool qs, .int .u64 qh, .int .u64 ql, .int .i64 qm] [.bool t, .int .u64 h, .int .u64 l] [.bool ms, .int .u64 mh, .int .u64 ml, .int .i64 mn] [.bool xs, .int .u64 xh, .int .u64 xl] [.bool ks, .int .u64 kh, .int .u64 kl, .int .i64 kn] wx)
          case first => as_aux_lemma =>
            obtain ⟨c0, c1, c2, c3, _⟩ := hH1.p.four
            obtain ⟨d0, d1, d2, d3, _⟩ := hH1.q.four
            have HX : ∀ X : Bool, X = (s != qs) → firstZ [twE s hi lo n qs qh ql qm, whenZ X 10] = cmE s hi lo n qs qh ql qm := fun X hX => by rw [hX]; rfl
            have HX' := Lib.hid HX
            clear HX
            go_wp2_with fail
            refine (when_any _ _ _).mono ?_
            rintro e z2 ⟨rfl, rfl⟩
            go_wp2_with fail
            refine (errs_after [twE s hi lo n qs qh ql qm, whenZ _ 10] _ (by simp) (by simp) (gb_refl _ none)).mono ?_
            rintro e z3 ⟨rfl, rfl⟩
            go_wp2_with fail
            go_meet
            exact ⟨by rw [HX'.out _ (by cases s <;> cases qs <;> rfl)], hH1.alloc _⟩
          case rest =>
            clear hH1
            obtain ⟨rfl, hH1⟩ := hcut
            go_upto_region 16 with fail
            go_cut [140] (fun s140 wx => s140 = .bool false ∧ Hexa w q4 q5 q6 q8 q10 q16 [.bool s, .int .u64 hi, .int .u64 lo, .int .i64 n] [.bool qs, .int .u64 qh, .int .u64 ql, .int .i64 qm] [.bool t, .int .u64 h, .int .u64 l] [.bool ms, .int .u64 mh, .int .u64 ml, .int .i64 mn] [.bool xs, .int .u64 xh, .int .u64 xl] [.bool ks, .int .u64 kh, .int .u64 kl, .int .i64 kn] wx)
            case first => as_aux_lemma =>
              obtain ⟨c0, c1, c2, c3, _⟩ := hH1.p.four
              have HG := Lib.hid (show firstZ [pfF s hi lo n, adF t h l] = coE s hi lo n t h l from rfl)
              go_wp2_with fail
              refine (checkPrefix_any s hi lo n _ h1 h2 h3 h4).mono ?_
              rintro e z1 ⟨rfl, hb1⟩
              have hH1 := hH1.below hb1
              clear hb1 c0 c1 c2 c3
              obtain ⟨a0, a1, a2, _⟩ := hH1.a.three
              go_wp2_with fail
              refine (addrFault_any _ _ _ _ k1).mono ?_
              rintro e z2 ⟨rfl, hb1⟩
              have hH1 := hH1.below hb1
              clear hb1 a0 a1 a2
              go_wp2_with fail
              refine (errs_after [pfF s hi lo n, adF t h l] _ (by simp) (by simp) (gb_refl _ none)).mono ?_
              rintro e z3 ⟨rfl, rfl⟩
              rw [HG.out]
              go_wp2_with fail
              go_meet
              exact ⟨rfl, hH1.alloc _⟩
            case rest =>
              clear hH1
              obtain ⟨rfl, hH1⟩ := hcut
              have R1 := Lib.hid (show coE s hi lo n t h l = 0 → pfF s hi lo n = 0 from fun he => by
                unfold coE at he; rw [firstZ_two] at he; split at he <;> simp_all)
              have R2 := Lib.hid (show twE s hi lo n qs qh ql qm = 0 → pfF s hi lo n = 0 from fun he => (twE_zero he).1)
              go_upto_region 18 with fail
              generalize maE t h l b = eM at GMb ⊢
              generalize coE s hi lo n t h l = eG at GCb R1 ⊢
              generalize cmE s hi lo n qs qh ql qm = eK at GKb GKz ⊢
              generalize twE s hi lo n qs qh ql qm = eT at GIb R2 ⊢
              generalize pfF s hi lo n = e1 at GLb R1 R2 ⊢
              go_cut [181] (fun s181 wx => s181 = .bool false ∧ Hexa w q4 q5 q6 q8 q10 q16 [.bool s, .int .u64 hi, .int .u64 lo, .int .i64 n] [.bool qs, .int .u64 qh, .int .u64 ql, .int .i64 qm] [.bool t, .int .u64 h, .int .u64 l] [.bool ms, .int .u64 mh, .int .u64 ml, .int .i64 mn] [.bool xs, .int .u64 xh, .int .u64 xl] [.bool ks, .int .u64 kh, .int .u64 kl, .int .i64 kn] wx)
              case first => as_aux_lemma =>
                have hB := gb_refl wc none
                have HF : Hid (∀ u, wc.grownBy u none → _) := Lib.hid fun u hu => And.intro (hH1.p.gn hu).four (And.intro (hH1.q.gn hu).four (And.intro (hH1.a.gn hu).three (And.intro (hH1.m.gn hu).four (hH1.x.gn hu).three)))
                have cM : (eM == 0) = true ∨ (eM == 0) = false := by cases (eM == 0) <;> simp
                have cT : (e1 == 0) = true ∧ ((eG == 0) = true ∧ (eT == 0) = true ∨ (eG == 0) = true ∧ (eT == 0) = false ∨ (eG == 0) = false ∧ (eT == 0) = true ∨ (eG == 0) = false ∧ (eT == 0) = false) ∨ (e1 == 0) = false ∧ (eG == 0) = false ∧ (eT == 0) = false := by
                  by_cases g1 : e1 = 0
                  · by_cases g2 : eG = 0 <;> by_cases g3 : eT = 0 <;> simp [g1, g2, g3]
                  · have g2 : ¬ eG = 0 := fun g => g1 (R1.out g)
                    have g3 : ¬ eT = 0 := fun g => g1 (R2.out g)
                    simp [g1, g2, g3]
                clear R1 R2 GKb GKz
                rcases cM with cM | cM <;> rcases cT with ⟨c1, ⟨cG, cT⟩ | ⟨cG, cT⟩ | ⟨cG, cT⟩ | ⟨cG, cT⟩⟩ | ⟨c1, cG, cT⟩
                all_goals as_aux_lemma =>
                  refine ways_begin (none) (by kernel_rfl) ?_
                  replace hB := gb_drew hB
                  refine ways_take (i := 0) (d := some 141) (v := ?_) (by simp only [List.getElem?_toArray, List.getElem?_cons_succ, List.getElem?_cons_zero] <;> rfl) (by rfl) (by kernel_rfl) (by kernel_rfl) (by kernel_rfl) (fun _ _ _ h => h) (by rfl) ?_ ?_
                  rotate_left
                  · ((intro u hu); go_simp; try with_reducible rfl)
                  try simp only [Act.put, List.setIfInBounds_toArray, List.set_cons_zero, List.set_cons_succ]
                  refine ways_take (i := 1) (d := some 142) (v := ?_) (by simp only [List.getElem?_toArray, List.getElem?_cons_succ, List.getElem?_cons_zero] <;> rfl) (by rfl) (by kernel_rfl) (by kernel_rfl) (by kernel_rfl) (fun _ _ _ h => h) (by rfl) ?_ ?_
                  rotate_left
                  · ((intro u hu); go_simp; try with_reducible rfl)
                  try simp only [Act.put, List.setIfInBounds_toArray, List.set_cons_zero, List.set_cons_succ]
                  refine ways_take (i := 2) (d := some 143) (v := ?_) (by simp only [List.getElem?_toArray, List.getElem?_cons_succ, List.getElem?_cons_zero] <;> rfl) (by rfl) (by kernel_rfl) (by kernel_rfl) (by kernel_rfl) (fun _ _ _ h => h) (by rfl) ?_ ?_
                  rotate_left
                  · ((intro u hu); go_simp; try with_reducible rfl)
                  try simp only [Act.put, List.setIfInBounds_toArray, List.set_cons_zero, List.set_cons_succ]
                  first
                    | (refine ways_skip (i := 3) (d := some 144) (by simp only [List.getElem?_toArray, List.getElem?_cons_succ, List.getElem?_cons_zero] <;> rfl) (by rfl) (by kernel_rfl) (by kernel_rfl) (by kernel_rfl) (fun _ _ _ h => h) (by rfl) ?_; try simp only [Act.put, List.setIfInBounds_toArray, List.set_cons_zero, List.set_cons_succ])
                    | (refine ways_take (i := 3) (d := some 144) (v := ?_) (by simp only [List.getElem?_toArray, List.getElem?_cons_succ, List.getElem?_cons_zero] <;> rfl) (by rfl) (by kernel_rfl) (by kernel_rfl) (by kernel_rfl) (fun _ _ _ h => h) (by rfl) ?_ ?_
                       rotate_left
                       · ((intro u hu); obtain ⟨⟨x40, x41, x42, x43, _⟩, ⟨x50, x51, x52, x53, _⟩, ⟨x60, x61, x62, _⟩, ⟨x80, x81, x82, x83, _⟩, ⟨x10, x11, x12, _⟩⟩ := HF.out u (gb_trans hB hu); go_simp; try with_reducible rfl)
                       try simp only [Act.put, List.setIfInBounds_toArray, List.set_cons_zero, List.set_cons_succ])
                  first
                    | (refine ways_skip (i := 4) (d := some 145) (by simp only [List.getElem?_toArray, List.getElem?_cons_succ, List.getElem?_cons_zero] <;> rfl) (by rfl) (by kernel_rfl) (by kernel_rfl) (by kernel_rfl) (fun _ _ _ h => h) (by rfl) ?_; try simp only [Act.put, List.setIfInBounds_toArray, List.set_cons_zero, List.set_cons_succ])
                    | (refine ways_take (i := 4) (d := some 145) (v := ?_) (by simp only [List.getElem?_toArray, List.getElem?_cons_succ, List.getElem?_cons_zero] <;> rfl) (by rfl) (by kernel_rfl) (by kernel_rfl) (by kernel_rfl) (fun _ _ _ h => h) (by rfl) ?_ ?_
                       rotate_left
                       · ((intro u hu); obtain ⟨⟨x40, x41, x42, x43, _⟩, ⟨x50, x51, x52, x53, _⟩, ⟨x60, x61, x62, _⟩, ⟨x80, x81, x82, x83, _⟩, ⟨x10, x11, x12, _⟩⟩ := HF.out u (gb_trans hB hu); go_simp; try with_reducible rfl)
                       try simp only [Act.put, List.setIfInBounds_toArray, List.set_cons_zero, List.set_cons_succ])
                  first
                    | (refine ways_skip (i := 5) (d := some 146) (by simp only [List.getElem?_toArray, List.getElem?_cons_succ, List.getElem?_cons_zero] <;> rfl) (by rfl) (by kernel_rfl) (by kernel_rfl) (by kernel_rfl) (fun _ _ _ h => h) (by rfl) ?_; try simp only [Act.put, List.setIfInBounds_toArray, List.set_cons_zero, List.set_cons_succ])
                    | (refine ways_take (i := 5) (d := some 146) (v := ?_) (by simp only [List.getElem?_toArray, List.getElem?_cons_succ, List.getElem?_cons_zero] <;> rfl) (by rfl) (by kernel_rfl) (by kernel_rfl) (by kernel_rfl) (fun _ _ _ h => h) (by rfl) ?_ ?_
                       rotate_left
                       · ((intro u hu); go_simp; try with_reducible rfl)
                       try simp only [Act.put, List.setIfInBounds_toArray, List.set_cons_zero, List.set_cons_succ])
                  first
                    | (refine ways_skip (i := 6) (d := some 147) (by simp only [List.getElem?_toArray, List.getElem?_cons_succ, List.getElem?_cons_zero] <;> rfl) (by rfl) (by kernel_rfl) (by kernel_rfl) (by kernel_rfl) (fun _ _ _ h => h) (by rfl) ?_; try simp only [Act.put, List.setIfInBounds_toArray, List.set_cons_zero, List.set_cons_succ])
                    | (refine ways_one (i := 6) (by simp only [List.getElem?_toArray, List.getElem?_cons_succ, List.getElem?_cons_zero] <;> rfl) (by kernel_rfl) (by rfl) (fun u hu K hK => ?_)
                       replace hB := gb_trans hB hu
                       go_simp
                       refine ((GMb.out (by simpa using cM) _).out).mono ?_
                       rintro e w106 ⟨rfl, hb6⟩
                       have hg6 := gbB (r := none) hb6
                       refine hK.out _ _ hg6 ?_
                       replace hB := gb_trans hB hg6
                       clear hK K hu
                       try simp only [Act.put, List.setIfInBounds_toArray, List.set_cons_zero, List.set_cons_succ])
                  first
                    | (refine ways_skip (i := 7) (d := some 148) (by simp only [List.getElem?_toArray, List.getElem?_cons_succ, List.getElem?_cons_zero] <;> rfl) (by rfl) (by kernel_rfl) (by kernel_rfl) (by kernel_rfl) (fun _ _ _ h => h) (by rfl) ?_; try simp only [Act.put, List.setIfInBounds_toArray, List.set_cons_zero, List.set_cons_succ])
                    | (refine ways_take (i := 7) (d := some 148) (v := ?_) (by simp only [List.getElem?_toArray, List.getElem?_cons_succ, List.getElem?_cons_zero] <;> rfl) (by rfl) (by kernel_rfl) (by kernel_rfl) (by kernel_rfl) (fun _ _ _ h => h) (by rfl) ?_ ?_
                       rotate_left
                       · ((intro u hu); go_simp; try with_reducible rfl)
                       try simp only [Act.put, List.setIfInBounds_toArray, List.set_cons_zero, List.set_cons_succ])
                  refine ways_take (i := 8) (d := some 149) (v := ?_) (by simp only [List.getElem?_toArray, List.getElem?_cons_succ, List.getElem?_cons_zero] <;> rfl) (by rfl) (by kernel_rfl) (by kernel_rfl) (by kernel_rfl) (fun _ _ _ h => h) (by rfl) ?_ ?_
                  rotate_left
                  · ((intro u hu); go_simp; try with_reducible rfl)
                  try simp only [Act.put, List.setIfInBounds_toArray, List.set_cons_zero, List.set_cons_succ]
                  refine ways_take (i := 9) (d := some 150) (v := ?_) (by simp only [List.getElem?_toArray, List.getElem?_cons_succ, List.getElem?_cons_zero] <;> rfl) (by rfl) (by kernel_rfl) (by kernel_rfl) (by kernel_rfl) (fun _ _ _ h => h) (by rfl) ?_ ?_
                  rotate_left
                  · ((intro u hu); go_simp; try with_reducible rfl)
                  try simp only [Act.put, List.setIfInBounds_toArray, List.set_cons_zero, List.set_cons_succ]
                  first
                    | (refine ways_skip (i := 10) (d := some 151) (by simp only [List.getElem?_toArray, List.getElem?_cons_succ, List.getElem?_cons_zero] <;> rfl) (by rfl) (by kernel_rfl) (by kernel_rfl) (by kernel_rfl) (fun _ _ _ h => h) (by rfl) ?_; try simp only [Act.put, List.setIfInBounds_toArray, List.set_cons_zero, List.set_cons_succ])
                    | (refine ways_take (i := 10) (d := some 151) (v := ?_) (by simp only [List.getElem?_toArray, List.getElem?_cons_succ, List.getElem?_cons_zero] <;> rfl) (by rfl) (by kernel_rfl) (by kernel_rfl) (by kernel_rfl) (fun _ _ _ h => h) (by rfl) ?_ ?_
                       rotate_left
                       · ((intro u hu); go_simp; try with_reducible rfl)
                       try simp only [Act.put, List.setIfInBounds_toArray, List.set_cons_zero, List.set_cons_succ])
                  first
                    | (refine ways_skip (i := 11) (d := some 152) (by simp only [List.getElem?_toArray, List.getElem?_cons_succ, List.getElem?_cons_zero] <;> rfl) (by rfl) (by kernel_rfl) (by kernel_rfl) (by kernel_rfl) (fun _ _ _ h => h) (by rfl) ?_; try simp only [Act.put, List.setIfInBounds_toArray, List.set_cons_zero, List.set_cons_succ])
                    | (refine ways_take (i := 11) (d := some 152) (v := ?_) (by simp only [List.getElem?_toArray, List.getElem?_cons_succ, List.getElem?_cons_zero] <;> rfl) (by rfl) (by kernel_rfl) (by kernel_rfl) (by kernel_rfl) (fun _ _ _ h => h) (by rfl) ?_ ?_
                       rotate_left
                       · ((intro u hu); go_simp; try with_reducible rfl)
                       try simp only [Act.put, List.setIfInBounds_toArray, List.set_cons_zero, List.set_cons_succ])
                  first
                    | (refine ways_skip (i := 12) (d := some 153) (by simp only [List.getElem?_toArray, List.getElem?_cons_succ, List.getElem?_cons_zero] <;> rfl) (by rfl) (by kernel_rfl) (by kernel_rfl) (by kernel_rfl) (fun _ _ _ h => h) (by rfl) ?_; try simp only [Act.put, List.setIfInBounds_toArray, List.set_cons_zero, List.set_cons_succ])
                    | (refine ways_take (i := 12) (d := some 153) (v := ?_) (by simp only [List.getElem?_toArray, List.getElem?_cons_succ, List.getElem?_cons_zero] <;> rfl) (by rfl) (by kernel_rfl) (by kernel_rfl) (by kernel_rfl) (fun _ _ _ h => h) (by rfl) ?_ ?_
                       rotate_left
                       · ((intro u hu); go_simp; try with_reducible rfl)
                       try simp only [Act.put, List.setIfInBounds_toArray, List.set_cons_zero, List.set_cons_succ])
                  first
                    | (refine ways_skip (i := 13) (d := some 154) (by simp only [List.getElem?_toArray, List.getElem?_cons_succ, List.getElem?_cons_zero] <;> rfl) (by rfl) (by kernel_rfl) (by kernel_rfl) (by kernel_rfl) (fun _ _ _ h => h) (by rfl) ?_; try simp only [Act.put, List.setIfInBounds_toArray, List.set_cons_zero, List.set_cons_succ])
                    | (refine ways_take (i := 13) (d := some 154) (v := ?_) (by simp only [List.getElem?_toArray, List.getElem?_cons_succ, List.getElem?_cons_zero] <;> rfl) (by rfl) (by kernel_rfl) (by kernel_rfl) (by kernel_rfl) (fun _ _ _ h => h) (by rfl) ?_ ?_
                       rotate_left
                       · ((intro u hu); obtain ⟨⟨x40, x41, x42, x43, _⟩, ⟨x50, x51, x52, x53, _⟩, ⟨x60, x61, x62, _⟩, ⟨x80, x81, x82, x83, _⟩, ⟨x10, x11, x12, _⟩⟩ := HF.out u (gb_trans hB hu); go_simp; try with_reducible rfl)
                       try simp only [Act.put, List.setIfInBounds_toArray, List.set_cons_zero, List.set_cons_succ])
                  first
                    | (refine ways_skip (i := 14) (d := some 155) (by simp only [List.getElem?_toArray, List.getElem?_cons_succ, List.getElem?_cons_zero] <;> rfl) (by rfl) (by kernel_rfl) (by kernel_rfl) (by kernel_rfl) (fun _ _ _ h => h) (by rfl) ?_; try simp only [Act.put, List.setIfInBounds_toArray, List.set_cons_zero, List.set_cons_succ])
                    | (refine ways_take (i := 14) (d := some 155) (v := ?_) (by simp only [List.getElem?_toArray, List.getElem?_cons_succ, List.getElem?_cons_zero] <;> rfl) (by rfl) (by kernel_rfl) (by kernel_rfl) (by kernel_rfl) (fun _ _ _ h => h) (by rfl) ?_ ?_
                       rotate_left
                       · ((intro u hu); obtain ⟨⟨x40, x41, x42, x43, _⟩, ⟨x50, x51, x52, x53, _⟩, ⟨x60, x61, x62, _⟩, ⟨x80, x81, x82, x83, _⟩, ⟨x10, x11, x12, _⟩⟩ := HF.out u (gb_trans hB hu); go_simp; try with_reducible rfl)
                       try simp only [Act.put, List.setIfInBounds_toArray, List.set_cons_zero, List.set_cons_succ])
                  first
                    | (refine ways_skip (i := 15) (d := some 156) (by simp only [List.getElem?_toArray, List.getElem?_cons_succ, List.getElem?_cons_zero] <;> rfl) (by rfl) (by kernel_rfl) (by kernel_rfl) (by kernel_rfl) (fun _ _ _ h => h) (by rfl) ?_; try simp only [Act.put, List.setIfInBounds_toArray, List.set_cons_zero, List.set_cons_succ])
                    | (refine ways_one (i := 15) (by simp only [List.getElem?_toArray, List.getElem?_cons_succ, List.getElem?_cons_zero] <;> rfl) (by kernel_rfl) (by rfl) (fun u hu K hK => ?_)
                       replace hB := gb_trans hB hu
                       go_simp
                       refine ((GLb.out (by simpa using c1) _).out).mono ?_
                       rintro e w115 ⟨rfl, hb15⟩
                       have hg15 := gbB (r := none) hb15
                       refine hK.out _ _ hg15 ?_
                       replace hB := gb_trans hB hg15
                       clear hK K hu
                       try simp only [Act.put, List.setIfInBounds_toArray, List.set_cons_zero, List.set_cons_succ])
                  first
                    | (refine ways_skip (i := 16) (d := some 157) (by simp only [List.getElem?_toArray, List.getElem?_cons_succ, List.getElem?_cons_zero] <;> rfl) (by rfl) (by kernel_rfl) (by kernel_rfl) (by kernel_rfl) (fun _ _ _ h => h) (by rfl) ?_; try simp only [Act.put, List.setIfInBounds_toArray, List.set_cons_zero, List.set_cons_succ])
                    | (refine ways_take (i := 16) (d := some 157) (v := ?_) (by simp only [List.getElem?_toArray, List.getElem?_cons_succ, List.getElem?_cons_zero] <;> rfl) (by rfl) (by kernel_rfl) (by kernel_rfl) (by kernel_rfl) (fun _ _ _ h => h) (by rfl) ?_ ?_
                       rotate_left
                       · ((intro u hu); go_simp; try with_reducible rfl)
                       try simp only [Act.put, List.setIfInBounds_toArray, List.set_cons_zero, List.set_cons_succ])
                  first
                    | (refine ways_skip (i := 17) (d := some 158) (by simp only [List.getElem?_toArray, List.getElem?_cons_succ, List.getElem?_cons_zero] <;> rfl) (by rfl) (by kernel_rfl) (by kernel_rfl) (by kernel_rfl) (fun _ _ _ h => h) (by rfl) ?_; try simp only [Act.put, List.setIfInBounds_toArray, List.set_cons_zero, List.set_cons_succ])
                    | (refine ways_take (i := 17) (d := some 158) (v := ?_) (by simp only [List.getElem?_toArray, List.getElem?_cons_succ, List.getElem?_cons_zero] <;> rfl) (by rfl) (by kernel_rfl) (by kernel_rfl) (by kernel_rfl) (fun _ _ _ h => h) (by rfl) ?_ ?_
                       rotate_left
                       · ((intro u hu); go_simp; try with_reducible rfl)
                       try simp only [Act.put, List.setIfInBounds_toArray, List.set_cons_zero, List.set_cons_succ])
                  refine ways_take (i := 18) (d := some 159) (v := ?_) (by simp only [List.getElem?_toArray, List.getElem?_cons_succ, List.getElem?_cons_zero] <;> rfl) (by rfl) (by kernel_rfl) (by kernel_rfl) (by kernel_rfl) (fun _ _ _ h => h) (by rfl) ?_ ?_
                  rotate_left
                  · ((intro u hu); go_simp; try with_reducible rfl)
                  try simp only [Act.put, List.setIfInBounds_toArray, List.set_cons_zero, List.set_cons_succ]
                  refine ways_take (i := 19) (d := some 160) (v := ?_) (by simp only [List.getElem?_toArray, List.getElem?_cons_succ, List.getElem?_cons_zero] <;> rfl) (by rfl) (by kernel_rfl) (by kernel_rfl) (by kernel_rfl) (fun _ _ _ h => h) (by rfl) ?_ ?_
                  rotate_left
                  · ((intro u hu); go_simp; try with_reducible rfl)
                  try simp only [Act.put, List.setIfInBounds_toArray, List.set_cons_zero, List.set_cons_succ]
                  first
                    | (refine ways_skip (i := 20) (d := some 161) (by simp only [List.getElem?_toArray, List.getElem?_cons_succ, List.getElem?_cons_zero] <;> rfl) (by rfl) (by kernel_rfl) (by kernel_rfl) (by kernel_rfl) (fun _ _ _ h => h) (by rfl) ?_; try simp only [Act.put, List.setIfInBounds_toArray, List.set_cons_zero, List.set_cons_succ])
                    | (refine ways_take (i := 20) (d := some 161) (v := ?_) (by simp only [List.getElem?_toArray, List.getElem?_cons_succ, List.getElem?_cons_zero] <;> rfl) (by rfl) (by kernel_rfl) (by kernel_rfl) (by kernel_rfl) (fun _ _ _ h => h) (by rfl) ?_ ?_
                       rotate_left
                       · ((intro u hu); go_simp; try with_reducible rfl)
                       try simp only [Act.put, List.setIfInBounds_toArray, List.set_cons_zero, List.set_cons_succ])
                  first
                    | (refine ways_skip (i := 21) (d := some 162) (by simp only [List.getElem?_toArray, List.getElem?_cons_succ, List.getElem?_cons_zero] <;> rfl) (by rfl) (by kernel_rfl) (by kernel_rfl) (by kernel_rfl) (fun _ _ _ h => h) (by rfl) ?_; try simp only [Act.put, List.setIfInBounds_toArray, List.set_cons_zero, List.set_cons_succ])
                    | (refine ways_take (i := 21) (d := some 162) (v := ?_) (by simp only [List.getElem?_toArray, List.getElem?_cons_succ, List.getElem?_cons_zero] <;> rfl) (by rfl) (by kernel_rfl) (by kernel_rfl) (by kernel_rfl) (fun _ _ _ h => h) (by rfl) ?_ ?_
                       rotate_left
                       · ((intro u hu); go_simp; try with_reducible rfl)
                       try simp only [Act.put, List.setIfInBounds_toArray, List.set_cons_zero, List.set_cons_succ])
                  first
                    | (refine ways_skip (i := 22) (d := some 163) (by simp only [List.getElem?_toArray, List.getElem?_cons_succ, List.getElem?_cons_zero] <;> rfl) (by rfl) (by kernel_rfl) (by kernel_rfl) (by kernel_rfl) (fun _ _ _ h => h) (by rfl) ?_; try simp only [Act.put, List.setIfInBounds_toArray, List.set_cons_zero, List.set_cons_succ])
                    | (refine ways_take (i := 22) (d := some 163) (v := ?_) (by simp only [List.getElem?_toArray, List.getElem?_cons_succ, List.getElem?_cons_zero] <;> rfl) (by rfl) (by kernel_rfl) (by kernel_rfl) (by kernel_rfl) (fun _ _ _ h => h) (by rfl) ?_ ?_
                       rotate_left
                       · ((intro u hu); go_simp; try with_reducible rfl)
                       try simp only [Act.put, List.setIfInBounds_toArray, List.set_cons_zero, List.set_cons_succ])
                  first
                    | (refine ways_skip (i := 23) (d := some 164) (by simp only [List.getElem?_toArray, List.getElem?_cons_succ, List.getElem?_cons_zero] <;> rfl) (by rfl) (by kernel_rfl) (by kernel_rfl) (by kernel_rfl) (fun _ _ _ h => h) (by rfl) ?_; try simp only [Act.put, List.setIfInBounds_toArray, List.set_cons_zero, List.set_cons_succ])
                    | (refine ways_take (i := 23) (d := some 164) (v := ?_) (by simp only [List.getElem?_toArray, List.getElem?_cons_succ, List.getElem?_cons_zero] <;> rfl) (by rfl) (by kernel_rfl) (by kernel_rfl) (by kernel_rfl) (fun _ _ _ h => h) (by rfl) ?_ ?_
                       rotate_left
                       · ((intro u hu); go_simp; try with_reducible rfl)
                       try simp only [Act.put, List.setIfInBounds_toArray, List.set_cons_zero, List.set_cons_succ])
                  first
                    | (refine ways_skip (i := 24) (d := some 165) (by simp only [List.getElem?_toArray, List.getElem?_cons_succ, List.getElem?_cons_zero] <;> rfl) (by rfl) (by kernel_rfl) (by kernel_rfl) (by kernel_rfl) (fun _ _ _ h => h) (by rfl) ?_; try simp only [Act.put, List.setIfInBounds_toArray, List.set_cons_zero, List.set_cons_succ])
                    | (refine ways_take (i := 24) (d := some 165) (v := ?_) (by simp only [List.getElem?_toArray, List.getElem?_cons_succ, List.getElem?_cons_zero] <;> rfl) (by rfl) (by kernel_rfl) (by kernel_rfl) (by kernel_rfl) (fun _ _ _ h => h) (by rfl) ?_ ?_
                       rotate_left
                       · ((intro u hu); obtain ⟨⟨x40, x41, x42, x43, _⟩, ⟨x50, x51, x52, x53, _⟩, ⟨x60, x61, x62, _⟩, ⟨x80, x81, x82, x83, _⟩, ⟨x10, x11, x12, _⟩⟩ := HF.out u (gb_trans hB hu); go_simp; try with_reducible rfl)
                       try simp only [Act.put, List.setIfInBounds_toArray, List.set_cons_zero, List.set_cons_succ])
                  first
                    | (refine ways_skip (i := 25) (d := some 166) (by simp only [List.getElem?_toArray, List.getElem?_cons_succ, List.getElem?_cons_zero] <;> rfl) (by rfl) (by kernel_rfl) (by kernel_rfl) (by kernel_rfl) (fun _ _ _ h => h) (by rfl) ?_; try simp only [Act.put, List.setIfInBounds_toArray, List.set_cons_zero, List.set_cons_succ])
                    | (refine ways_take (i := 25) (d := some 166) (v := ?_) (by simp only [List.getElem?_toArray, List.getElem?_cons_succ, List.getElem?_cons_zero] <;> rfl) (by rfl) (by kernel_rfl) (by kernel_rfl) (by kernel_rfl) (fun _ _ _ h => h) (by rfl) ?_ ?_
                       rotate_left
                       · ((intro u hu); obtain ⟨⟨x40, x41, x42, x43, _⟩, ⟨x50, x51, x52, x53, _⟩, ⟨x60, x61, x62, _⟩, ⟨x80, x81, x82, x83, _⟩, ⟨x10, x11, x12, _⟩⟩ := HF.out u (gb_trans hB hu); go_simp; try with_reducible rfl)
                       try simp only [Act.put, List.setIfInBounds_toArray, List.set_cons_zero, List.set_cons_succ])
                  first
                    | (refine ways_skip (i := 26) (d := some 167) (by simp only [List.getElem?_toArray, List.getElem?_cons_succ, List.getElem?_cons_zero] <;> rfl) (by rfl) (by kernel_rfl) (by kernel_rfl) (by kernel_rfl) (fun _ _ _ h => h) (by rfl) ?_; try simp only [Act.put, List.setIfInBounds_toArray, List.set_cons_zero, List.set_cons_succ])
                    | (refine ways_one (i := 26) (by simp only [List.getElem?_toArray, List.getElem?_cons_succ, List.getElem?_cons_zero] <;> rfl) (by kernel_rfl) (by rfl) (fun u hu K hK => ?_)
                       replace hB := gb_trans hB hu
                       go_simp
                       refine ((GCb.out (by simpa using cG) _).out).mono ?_
                       rintro e w126 ⟨rfl, hb26⟩
                       have hg26 := gbB (r := none) hb26
                       refine hK.out _ _ hg26 ?_
                       replace hB := gb_trans hB hg26
                       clear hK K hu
                       try simp only [Act.put, List.setIfInBounds_toArray, List.set_cons_zero, List.set_cons_succ])
                  first
                    | (refine ways_skip (i := 27) (d := some 168) (by simp only [List.getElem?_toArray, List.getElem?_cons_succ, List.getElem?_cons_zero] <;> rfl) (by rfl) (by kernel_rfl) (by kernel_rfl) (by kernel_rfl) (fun _ _ _ h => h) (by rfl) ?_; try simp only [Act.put, List.setIfInBounds_toArray, List.set_cons_zero, List.set_cons_succ])
                    | (refine ways_take (i := 27) (d := some 168) (v := ?_) (by simp only [List.getElem?_toArray, List.getElem?_cons_succ, List.getElem?_cons_zero] <;> rfl) (by rfl) (by kernel_rfl) (by kernel_rfl) (by kernel_rfl) (fun _ _ _ h => h) (by rfl) ?_ ?_
                       rotate_left
                       · ((intro u hu); go_simp; try with_reducible rfl)
                       try simp only [Act.put, List.setIfInBounds_toArray, List.set_cons_zero, List.set_cons_succ])
                  first
                    | (refine ways_skip (i := 28) (d := some 169) (by simp only [List.getElem?_toArray, List.getElem?_cons_succ, List.getElem?_cons_zero] <;> rfl) (by rfl) (by kernel_rfl) (by kernel_rfl) (by kernel_rfl) (fun _ _ _ h => h) (by rfl) ?_; try simp only [Act.put, List.setIfInBounds_toArray, List.set_cons_zero, List.set_cons_succ])
                    | (refine ways_take (i := 28) (d := some 169) (v := ?_) (by simp only [List.getElem?_toArray, List.getElem?_cons_succ, List.getElem?_cons_zero] <;> rfl) (by rfl) (by kernel_rfl) (by kernel_rfl) (by kernel_rfl) (fun _ _ _ h => h) (by rfl) ?_ ?_
                       rotate_left
                       · ((intro u hu); go_simp; try with_reducible rfl)
                       try simp only [Act.put, List.setIfInBounds_toArray, List.set_cons_zero, List.set_cons_succ])
                  refine ways_take (i := 29) (d := some 170) (v := ?_) (by simp only [List.getElem?_toArray, List.getElem?_cons_succ, List.getElem?_cons_zero] <;> rfl) (by rfl) (by kernel_rfl) (by kernel_rfl) (by kernel_rfl) (fun _ _ _ h => h) (by rfl) ?_ ?_
                  rotate_left
                  · ((intro u hu); go_simp; try with_reducible rfl)
                  try simp only [Act.put, List.setIfInBounds_toArray, List.set_cons_zero, List.set_cons_succ]
                  refine ways_take (i := 30) (d := some 171) (v := ?_) (by simp only [List.getElem?_toArray, List.getElem?_cons_succ, List.getElem?_cons_zero] <;> rfl) (by rfl) (by kernel_rfl) (by kernel_rfl) (by kernel_rfl) (fun _ _ _ h => h) (by rfl) ?_ ?_
                  rotate_left
                  · ((intro u hu); go_simp; try with_reducible rfl)
                  try simp only [Act.put, List.setIfInBounds_toArray, List.set_cons_zero, List.set_cons_succ]
                  first
                    | (refine ways_skip (i := 31) (d := some 172) (by simp only [List.getElem?_toArray, List.getElem?_cons_succ, List.getElem?_cons_zero] <;> rfl) (by rfl) (by kernel_rfl) (by kernel_rfl) (by kernel_rfl) (fun _ _ _ h => h) (by rfl) ?_; try simp only [Act.put, List.setIfInBounds_toArray, List.set_cons_zero, List.set_cons_succ])
                    | (refine ways_take (i := 31) (d := some 172) (v := ?_) (by simp only [List.getElem?_toArray, List.getElem?_cons_succ, List.getElem?_cons_zero] <;> rfl) (by rfl) (by kernel_rfl) (by kernel_rfl) (by kernel_rfl) (fun _ _ _ h => h) (by rfl) ?_ ?_
                       rotate_left
                       · ((intro u hu); go_simp; try with_reducible rfl)
                       try simp only [Act.put, List.setIfInBounds_toArray, List.set_cons_zero, List.set_cons_succ])
                  first
                    | (refine ways_skip (i := 32) (d := some 173) (by simp only [List.getElem?_toArray, List.getElem?_cons_succ, List.getElem?_cons_zero] <;> rfl) (by rfl) (by kernel_rfl) (by kernel_rfl) (by kernel_rfl) (fun _ _ _ h => h) (by rfl) ?_; try simp only [Act.put, List.setIfInBounds_toArray, List.set_cons_zero, List.set_cons_succ])
                    | (refine ways_take (i := 32) (d := some 173) (v := ?_) (by simp only [List.getElem?_toArray, List.getElem?_cons_succ, List.getElem?_cons_zero] <;> rfl) (by rfl) (by kernel_rfl) (by kernel_rfl) (by kernel_rfl) (fun _ _ _ h => h) (by rfl) ?_ ?_
                       rotate_left
                       · ((intro u hu); go_simp; try with_reducible rfl)
                       try simp only [Act.put, List.setIfInBounds_toArray, List.set_cons_zero, List.set_cons_succ])
                  first
                    | (refine ways_skip (i := 33) (d := some 174) (by simp only [List.getElem?_toArray, List.getElem?_cons_succ, List.getElem?_cons_zero] <;> rfl) (by rfl) (by kernel_rfl) (by kernel_rfl) (by kernel_rfl) (fun _ _ _ h => h) (by rfl) ?_; try simp only [Act.put, List.setIfInBounds_toArray, List.set_cons_zero, List.set_cons_succ])
                    | (refine ways_take (i := 33) (d := some 174) (v := ?_) (by simp only [List.getElem?_toArray, List.getElem?_cons_succ, List.getElem?_cons_zero] <;> rfl) (by rfl) (by kernel_rfl) (by kernel_rfl) (by kernel_rfl) (fun _ _ _ h => h) (by rfl) ?_ ?_
                       rotate_left
                       · ((intro u hu); go_simp; try with_reducible rfl)
                       try simp only [Act.put, List.setIfInBounds_toArray, List.set_cons_zero, List.set_cons_succ])
                  first
                    | (refine ways_skip (i := 34) (d := some 175) (by simp only [List.getElem?_toArray, List.getElem?_cons_succ, List.getElem?_cons_zero] <;> rfl) (by rfl) (by kernel_rfl) (by kernel_rfl) (by kernel_rfl) (fun _ _ _ h => h) (by rfl) ?_; try simp only [Act.put, List.setIfInBounds_toArray, List.set_cons_zero, List.set_cons_succ])
                    | (refine ways_take (i := 34) (d := some 175) (v := ?_) (by simp only [List.getElem?_toArray, List.getElem?_cons_succ, List.getElem?_cons_zero] <;> rfl) (by rfl) (by kernel_rfl) (by kernel_rfl) (by kernel_rfl) (fun _ _ _ h => h) (by rfl) ?_ ?_
                       rotate_left
                       · ((intro u hu); go_simp; try with_reducible rfl)
                       try simp only [Act.put, List.setIfInBounds_toArray, List.set_cons_zero, List.set_cons_succ])
                  first
                    | (refine ways_skip (i := 35) (d := some 176) (by simp only [List.getElem?_toArray, List.getElem?_cons_succ, List.getElem?_cons_zero] <;> rfl) (by rfl) (by kernel_rfl) (by kernel_rfl) (by kernel_rfl) (fun _ _ _ h => h) (by rfl) ?_; try simp only [Act.put, List.setIfInBounds_toArray, List.set_cons_zero, List.set_cons_succ])
                    | (refine ways_take (i := 35) (d := some 176) (v := ?_) (by simp only [List.getElem?_toArray, List.getElem?_cons_succ, List.getElem?_cons_zero] <;> rfl) (by rfl) (by kernel_rfl) (by kernel_rfl) (by kernel_rfl) (fun _ _ _ h => h) (by rfl) ?_ ?_
                       rotate_left
                       · ((intro u hu); obtain ⟨⟨x40, x41, x42, x43, _⟩, ⟨x50, x51, x52, x53, _⟩, ⟨x60, x61, x62, _⟩, ⟨x80, x81, x82, x83, _⟩, ⟨x10, x11, x12, _⟩⟩ := HF.out u (gb_trans hB hu); go_simp; try with_reducible rfl)
                       try simp only [Act.put, List.setIfInBounds_toArray, List.set_cons_zero, List.set_cons_succ])
                  first
                    | (refine ways_skip (i := 36) (d := some 177) (by simp only [List.getElem?_toArray, List.getElem?_cons_succ, List.getElem?_cons_zero] <;> rfl) (by rfl) (by kernel_rfl) (by kernel_rfl) (by kernel_rfl) (fun _ _ _ h => h) (by rfl) ?_; try simp only [Act.put, List.setIfInBounds_toArray, List.set_cons_zero, List.set_cons_succ])
                    | (refine ways_take (i := 36) (d := some 177) (v := ?_) (by simp only [List.getElem?_toArray, List.getElem?_cons_succ, List.getElem?_cons_zero] <;> rfl) (by rfl) (by kernel_rfl) (by kernel_rfl) (by kernel_rfl) (fun _ _ _ h => h) (by rfl) ?_ ?_
                       rotate_left
                       · ((intro u hu); obtain ⟨⟨x40, x41, x42, x43, _⟩, ⟨x50, x51, x52, x53, _⟩, ⟨x60, x61, x62, _⟩, ⟨x80, x81, x82, x83, _⟩, ⟨x10, x11, x12, _⟩⟩ := HF.out u (gb_trans hB hu); go_simp; try with_reducible rfl)
                       try simp only [Act.put, List.setIfInBounds_toArray, List.set_cons_zero, List.set_cons_succ])
                  first
                    | (refine ways_skip (i := 37) (d := some 178) (by simp only [List.getElem?_toArray, List.getElem?_cons_succ, List.getElem?_cons_zero] <;> rfl) (by rfl) (by kernel_rfl) (by kernel_rfl) (by kernel_rfl) (fun _ _ _ h => h) (by rfl) ?_; try simp only [Act.put, List.setIfInBounds_toArray, List.set_cons_zero, List.set_cons_succ])
                    | (refine ways_one (i := 37) (by simp only [List.getElem?_toArray, List.getElem?_cons_succ, List.getElem?_cons_zero] <;> rfl) (by kernel_rfl) (by rfl) (fun u hu K hK => ?_)
                       replace hB := gb_trans hB hu
                       go_simp
                       refine ((GIb.out (by simpa using cT) _).out).mono ?_
                       rintro e w137 ⟨rfl, hb37⟩
                       have hg37 := gbB (r := none) hb37
                       refine hK.out _ _ hg37 ?_
                       replace hB := gb_trans hB hg37
                       clear hK K hu
                       try simp only [Act.put, List.setIfInBounds_toArray, List.set_cons_zero, List.set_cons_succ])
                  first
                    | (refine ways_skip (i := 38) (d := some 179) (by simp only [List.getElem?_toArray, List.getElem?_cons_succ, List.getElem?_cons_zero] <;> rfl) (by rfl) (by kernel_rfl) (by kernel_rfl) (by kernel_rfl) (fun _ _ _ h => h) (by rfl) ?_; try simp only [Act.put, List.setIfInBounds_toArray, List.set_cons_zero, List.set_cons_succ])
                    | (refine ways_take (i := 38) (d := some 179) (v := ?_) (by simp only [List.getElem?_toArray, List.getElem?_cons_succ, List.getElem?_cons_zero] <;> rfl) (by rfl) (by kernel_rfl) (by kernel_rfl) (by kernel_rfl) (fun _ _ _ h => h) (by rfl) ?_ ?_
                       rotate_left
                       · ((intro u hu); go_simp; try with_reducible rfl)
                       try simp only [Act.put, List.setIfInBounds_toArray, List.set_cons_zero, List.set_cons_succ])
                  first
                    | (refine ways_skip (i := 39) (d := some 180) (by simp only [List.getElem?_toArray, List.getElem?_cons_succ, List.getElem?_cons_zero] <;> rfl) (by rfl) (by kernel_rfl) (by kernel_rfl) (by kernel_rfl) (fun _ _ _ h => h) (by rfl) ?_; try simp only [Act.put, List.setIfInBounds_toArray, List.set_cons_zero, List.set_cons_succ])
                    | (refine ways_take (i := 39) (d := some 180) (v := ?_) (by simp only [List.getElem?_toArray, List.getElem?_cons_succ, List.getElem?_cons_zero] <;> rfl) (by rfl) (by kernel_rfl) (by kernel_rfl) (by kernel_rfl) (fun _ _ _ h => h) (by rfl) ?_ ?_
                       rotate_left
                       · ((intro u hu); go_simp; try with_reducible rfl)
                       try simp only [Act.put, List.setIfInBounds_toArray, List.set_cons_zero, List.set_cons_succ])
                  refine ways_take (i := 40) (d := some 181) (v := ?_) (by simp only [List.getElem?_toArray, List.getElem?_cons_succ, List.getElem?_cons_zero] <;> rfl) (by rfl) (by kernel_rfl) (by kernel_rfl) (by kernel_rfl) (fun _ _ _ h => h) (by rfl) ?_ ?_
                  rotate_left
                  · ((intro u hu); go_simp; try with_reducible rfl)
                  try simp only [Act.put, List.setIfInBounds_toArray, List.set_cons_zero, List.set_cons_succ]
                  refine ways_done (by kernel_rfl) (fun u hu => ?_) _
                  replace hB := gb_trans hB hu
                  clear hu
                  go_wp2_with fail
                  go_meet
                  exact ⟨rfl, hH1.below (gb2B hB)⟩
              case rest =>
                clear hH1 GMb GLb GCb GIb R1 R2
                obtain ⟨rfl, hH1⟩ := hcut
                go_upto_region 20 with fail
                have hB := gb_refl wc none
                have HF : Hid (∀ u, wc.grownBy u none → _) := Lib.hid fun u hu => And.intro (hH1.p.gn hu).four (And.intro (hH1.q.gn hu).four (hH1.k.gn hu).four)
                by_cases hK : eK = 0
                · have cK : (eK == 0) = true := by simp [hK]
                  have cK' : (eK != 0) = false := by simp [hK]
                  clear hK
                  refine ways_begin (none) (by kernel_rfl) ?_
                  replace hB := gb_drew hB
                  refine ways_take (i := 0) (d := some 182) (v := ?_) (by simp only [List.getElem?_toArray, List.getElem?_cons_succ, List.getElem?_cons_zero] <;> rfl) (by rfl) (by kernel_rfl) (by kernel_rfl) (by kernel_rfl) (fun _ _ _ h => h) (by rfl) ?_ ?_
                  rotate_left
                  · ((intro u hu); go_simp; try with_reducible rfl)
                  try simp only [Act.put, List.setIfInBounds_toArray, List.set_cons_zero, List.set_cons_succ]
                  refine ways_take (i := 1) (d := some 183) (v := ?_) (by simp only [List.getElem?_toArray, List.getElem?_cons_succ, List.getElem?_cons_zero] <;> rfl) (by rfl) (by kernel_rfl) (by kernel_rfl) (by kernel_rfl) (fun _ _ _ h => h) (by rfl) ?_ ?_
                  rotate_left
                  · ((intro u hu); go_simp; try with_reducible rfl)
                  try simp only [Act.put, List.setIfInBounds_toArray, List.set_cons_zero, List.set_cons_succ]
                  refine ways_take (i := 2) (d := some 184) (v := ?_) (by simp only [List.getElem?_toArray, List.getElem?_cons_succ, List.getElem?_cons_zero] <;> rfl) (by rfl) (by kernel_rfl) (by kernel_rfl) (by kernel_rfl) (fun _ _ _ h => h) (by rfl) ?_ ?_
                  rotate_left
                  · ((intro u hu); go_simp; try with_reducible rfl)
                  try simp only [Act.put, List.setIfInBounds_toArray, List.set_cons_zero, List.set_cons_succ]
                  refine ways_skip (i := 3) (d := some 185) (by simp only [List.getElem?_toArray, List.getElem?_cons_succ, List.getElem?_cons_zero] <;> rfl) (by rfl) (by kernel_rfl) (by kernel_rfl) (by kernel_rfl) (fun _ _ _ h => h) (by rfl) ?_
                  try simp only [Act.put, List.setIfInBounds_toArray, List.set_cons_zero, List.set_cons_succ]
                  refine ways_skip (i := 4) (d := some 186) (by simp only [List.getElem?_toArray, List.getElem?_cons_succ, List.getElem?_cons_zero] <;> rfl) (by rfl) (by kernel_rfl) (by kernel_rfl) (by kernel_rfl) (fun _ _ _ h => h) (by rfl) ?_
                  try simp only [Act.put, List.setIfInBounds_toArray, List.set_cons_zero, List.set_cons_succ]
                  refine ways_skip (i := 5) (d := some 187) (by simp only [List.getElem?_toArray, List.getElem?_cons_succ, List.getElem?_cons_zero] <;> rfl) (by rfl) (by kernel_rfl) (by kernel_rfl) (by kernel_rfl) (fun _ _ _ h => h) (by rfl) ?_
                  try simp only [Act.put, List.setIfInBounds_toArray, List.set_cons_zero, List.set_cons_succ]
                  refine ways_take (i := 6) (d := some 188) (v := ?_) (by simp only [List.getElem?_toArray, List.getElem?_cons_succ, List.getElem?_cons_zero] <;> rfl) (by rfl) (by kernel_rfl) (by kernel_rfl) (by kernel_rfl) (fun _ _ _ h => h) (by rfl) ?_ ?_
                  rotate_left
                  · ((intro u hu); go_simp; try with_reducible rfl)
                  try simp only [Act.put, List.setIfInBounds_toArray, List.set_cons_zero, List.set_cons_succ]
                  refine ways_take (i := 7) (d := some 189) (v := ?_) (by simp only [List.getElem?_toArray, List.getElem?_cons_succ, List.getElem?_cons_zero] <;> rfl) (by rfl) (by kernel_rfl) (by kernel_rfl) (by kernel_rfl) (fun _ _ _ h => h) (by rfl) ?_ ?_
                  rotate_left
                  · ((intro u hu); go_simp; try with_reducible rfl)
                  try simp only [Act.put, List.setIfInBounds_toArray, List.set_cons_zero, List.set_cons_succ]
                  refine ways_take (i := 8) (d := some 190) (v := ?_) (by simp only [List.getElem?_toArray, List.getElem?_cons_succ, List.getElem?_cons_zero] <;> rfl) (by rfl) (by kernel_rfl) (by kernel_rfl) (by kernel_rfl) (fun _ _ _ h => h) (by rfl) ?_ ?_
                  rotate_left
                  · ((intro u hu); go_simp; try with_reducible rfl)
                  try simp only [Act.put, List.setIfInBounds_toArray, List.set_cons_zero, List.set_cons_succ]
                  refine ways_take (i := 9) (d := some 191) (v := ?_) (by simp only [List.getElem?_toArray, List.getElem?_cons_succ, List.getElem?_cons_zero] <;> rfl) (by rfl) (by kernel_rfl) (by kernel_rfl) (by kernel_rfl) (fun _ _ _ h => h) (by rfl) ?_ ?_
                  rotate_left
                  · ((intro u hu); go_simp; try with_reducible rfl)
                  try simp only [Act.put, List.setIfInBounds_toArray, List.set_cons_zero, List.set_cons_succ]
                  refine ways_take (i := 10) (d := some 192) (v := ?_) (by simp only [List.getElem?_toArray, List.getElem?_cons_succ, List.getElem?_cons_zero] <;> rfl) (by rfl) (by kernel_rfl) (by kernel_rfl) (by kernel_rfl) (fun _ _ _ h => h) (by rfl) ?_ ?_
                  rotate_left
                  · ((intro u hu); go_simp; try with_reducible rfl)
                  try simp only [Act.put, List.setIfInBounds_toArray, List.set_cons_zero, List.set_cons_succ]
                  refine ways_take (i := 11) (d := some 193) (v := ?_) (by simp only [List.getElem?_toArray, List.getElem?_cons_succ, List.getElem?_cons_zero] <;> rfl) (by rfl) (by kernel_rfl) (by kernel_rfl) (by kernel_rfl) (fun _ _ _ h => h) (by rfl) ?_ ?_
                  rotate_left
                  · ((intro u hu); obtain ⟨⟨x40, x41, x42, x43, _⟩, ⟨x50, x51, x52, x53, _⟩, ⟨x60, x61, x62, x63, _⟩⟩ := HF.out u (gb_trans hB hu); go_simp; try with_reducible rfl)
                  try simp only [Act.put, List.setIfInBounds_toArray, List.set_cons_zero, List.set_cons_succ]
                  refine ways_take (i := 12) (d := some 194) (v := ?_) (by simp only [List.getElem?_toArray, List.getElem?_cons_succ, List.getElem?_cons_zero] <;> rfl) (by rfl) (by kernel_rfl) (by kernel_rfl) (by kernel_rfl) (fun _ _ _ h => h) (by rfl) ?_ ?_
                  rotate_left
                  · ((intro u hu); obtain ⟨⟨x40, x41, x42, x43, _⟩, ⟨x50, x51, x52, x53, _⟩, ⟨x60, x61, x62, x63, _⟩⟩ := HF.out u (gb_trans hB hu); go_simp; try with_reducible rfl)
                  try simp only [Act.put, List.setIfInBounds_toArray, List.set_cons_zero, List.set_cons_succ]
                  refine ways_take (i := 13) (d := some 195) (v := ?_) (by simp only [List.getElem?_toArray, List.getElem?_cons_succ, List.getElem?_cons_zero] <;> rfl) (by rfl) (by kernel_rfl) (by kernel_rfl) (by kernel_rfl) (fun _ _ _ h => h) (by rfl) ?_ ?_
                  rotate_left
                  · ((intro u hu); obtain ⟨⟨x40, x41, x42, x43, _⟩, ⟨x50, x51, x52, x53, _⟩, ⟨x60, x61, x62, x63, _⟩⟩ := HF.out u (gb_trans hB hu); go_simp; try with_reducible rfl)
                  try simp only [Act.put, List.setIfInBounds_toArray, List.set_cons_zero, List.set_cons_succ]
                  refine ways_one (i := 14) (by simp only [List.getElem?_toArray, List.getElem?_cons_succ, List.getElem?_cons_zero] <;> rfl) (by kernel_rfl) (by rfl) (fun u hu K hK => ?_)
                  replace hB := gb_trans hB hu
                  go_simp
                  refine ((GKb.out (by simpa using cK) _).out).mono ?_
                  rintro e w114 ⟨rfl, hb14⟩
                  have hg14 := gbB (r := none) hb14
                  refine hK.out _ _ hg14 ?_
                  replace hB := gb_trans hB hg14
                  clear hK K hu
                  try simp only [Act.put, List.setIfInBounds_toArray, List.set_cons_zero, List.set_cons_succ]
                  refine ways_take (i := 15) (d := some 197) (v := ?_) (by simp only [List.getElem?_toArray, List.getElem?_cons_succ, List.getElem?_cons_zero] <;> rfl) (by rfl) (by kernel_rfl) (by kernel_rfl) (by kernel_rfl) (fun _ _ _ h => h) (by rfl) ?_ ?_
                  rotate_left
                  · ((intro u hu); go_simp; try with_reducible rfl)
                  try simp only [Act.put, List.setIfInBounds_toArray, List.set_cons_zero, List.set_cons_succ]
                  refine ways_take (i := 16) (d := some 198) (v := ?_) (by simp only [List.getElem?_toArray, List.getElem?_cons_succ, List.getElem?_cons_zero] <;> rfl) (by rfl) (by kernel_rfl) (by kernel_rfl) (by kernel_rfl) (fun _ _ _ h => h) (by rfl) ?_ ?_
                  rotate_left
                  · ((intro u hu); go_simp; try with_reducible rfl)
                  try simp only [Act.put, List.setIfInBounds_toArray, List.set_cons_zero, List.set_cons_succ]
                  refine ways_take (i := 17) (d := some 199) (v := ?_) (by simp only [List.getElem?_toArray, List.getElem?_cons_succ, List.getElem?_cons_zero] <;> rfl) (by rfl) (by kernel_rfl) (by kernel_rfl) (by kernel_rfl) (fun _ _ _ h => h) (by rfl) ?_ ?_
                  rotate_left
                  · ((intro u hu); go_simp; try with_reducible rfl)
                  try simp only [Act.put, List.setIfInBounds_toArray, List.set_cons_zero, List.set_cons_succ]
                  refine ways_take (i := 18) (d := some 200) (v := ?_) (by simp only [List.getElem?_toArray, List.getElem?_cons_succ, List.getElem?_cons_zero] <;> rfl) (by rfl) (by kernel_rfl) (by kernel_rfl) (by kernel_rfl) (fun _ _ _ h => h) (by rfl) ?_ ?_
                  rotate_left
                  · ((intro u hu); go_simp; try with_reducible rfl)
                  try simp only [Act.put, List.setIfInBounds_toArray, List.set_cons_zero, List.set_cons_succ]
                  refine ways_one (i := 19) (by simp only [List.getElem?_toArray, List.getElem?_cons_succ, List.getElem?_cons_zero] <;> rfl) (by kernel_rfl) (by rfl) (fun u hu K hK => ?_)
                  replace hB := gb_trans hB hu
                  go_simp
                  refine (addressed_any _).mono ?_
                  rintro e w119 ⟨rfl, hb19⟩
                  have hg19 := gbB (r := none) hb19
                  refine hK.out _ _ hg19 ?_
                  replace hB := gb_trans hB hg19
                  clear hK K hu
                  try simp only [Act.put, List.setIfInBounds_toArray, List.set_cons_zero, List.set_cons_succ]
                  refine ways_take (i := 20) (d := some 202) (v := ?_) (by simp only [List.getElem?_toArray, List.getElem?_cons_succ, List.getElem?_cons_zero] <;> rfl) (by rfl) (by kernel_rfl) (by kernel_rfl) (by kernel_rfl) (fun _ _ _ h => h) (by rfl) ?_ ?_
                  rotate_left
                  · ((intro u hu); go_simp; try with_reducible rfl)
                  try simp only [Act.put, List.setIfInBounds_toArray, List.set_cons_zero, List.set_cons_succ]
                  refine ways_take (i := 21) (d := some 2) (v := ?_) (by simp only [List.getElem?_toArray, List.getElem?_cons_succ, List.getElem?_cons_zero] <;> rfl) (by rfl) (by kernel_rfl) (by kernel_rfl) (by kernel_rfl) (fun _ _ _ h => h) (by rfl) ?_ ?_
                  rotate_left
                  · ((intro u hu); go_simp; try with_reducible rfl)
                  try simp only [Act.put, List.setIfInBounds_toArray, List.set_cons_zero, List.set_cons_succ]
                  refine ways_done (by kernel_rfl) (fun u hu => ?_) _
                  replace hB := gb_trans hB hu
                  clear hu
                  go_wp2_with fail
                  go_ret
                  exact ⟨rfl, hH1.base.trans ((gb2B hB).mono hH1.base.size)⟩
                · obtain ⟨rfl, rfl, rfl, rfl⟩ := GKz.out hK
                  have cK : (eK == 0) = false := by simp [hK]
                  have cK' : (eK != 0) = true := by simp [hK]
                  clear hK
                  refine ways_begin (none) (by kernel_rfl) ?_
                  replace hB := gb_drew hB
                  refine ways_take (i := 0) (d := some 182) (v := ?_) (by simp only [List.getElem?_toArray, List.getElem?_cons_succ, List.getElem?_cons_zero] <;> rfl) (by rfl) (by kernel_rfl) (by kernel_rfl) (by kernel_rfl) (fun _ _ _ h => h) (by rfl) ?_ ?_
                  rotate_left
                  · ((intro u hu); go_simp; try with_reducible rfl)
                  try simp only [Act.put, List.setIfInBounds_toArray, List.set_cons_zero, List.set_cons_succ]
                  refine ways_take (i := 1) (d := some 183) (v := ?_) (by simp only [List.getElem?_toArray, List.getElem?_cons_succ, List.getElem?_cons_zero] <;> rfl) (by rfl) (by kernel_rfl) (by kernel_rfl) (by kernel_rfl) (fun _ _ _ h => h) (by rfl) ?_ ?_
                  rotate_left
                  · ((intro u hu); go_simp; try with_reducible rfl)
                  try simp only [Act.put, List.setIfInBounds_toArray, List.set_cons_zero, List.set_cons_succ]
                  refine ways_take (i := 2) (d := some 184) (v := ?_) (by simp only [List.getElem?_toArray, List.getElem?_cons_succ, List.getElem?_cons_zero] <;> rfl) (by rfl) (by kernel_rfl) (by kernel_rfl) (by kernel_rfl) (fun _ _ _ h => h) (by rfl) ?_ ?_
                  rotate_left
                  · ((intro u hu); go_simp; try with_reducible rfl)
                  try simp only [Act.put, List.setIfInBounds_toArray, List.set_cons_zero, List.set_cons_succ]
                  refine ways_take (i := 3) (d := some 185) (v := ?_) (by simp only [List.getElem?_toArray, List.getElem?_cons_succ, List.getElem?_cons_zero] <;> rfl) (by rfl) (by kernel_rfl) (by kernel_rfl) (by kernel_rfl) (fun _ _ _ h => h) (by rfl) ?_ ?_
                  rotate_left
                  · ((intro u hu); obtain ⟨⟨x40, x41, x42, x43, _⟩, ⟨x50, x51, x52, x53, _⟩, ⟨x60, x61, x62, x63, _⟩⟩ := HF.out u (gb_trans hB hu); go_simp; try with_reducible rfl)
                  try simp only [Act.put, List.setIfInBounds_toArray, List.set_cons_zero, List.set_cons_succ]
                  refine ways_take (i := 4) (d := some 186) (v := ?_) (by simp only [List.getElem?_toArray, List.getElem?_cons_succ, List.getElem?_cons_zero] <;> rfl) (by rfl) (by kernel_rfl) (by kernel_rfl) (by kernel_rfl) (fun _ _ _ h => h) (by rfl) ?_ ?_
                  rotate_left
                  · ((intro u hu); go_simp; try with_reducible rfl)
                  try simp only [Act.put, List.setIfInBounds_toArray, List.set_cons_zero, List.set_cons_succ]
                  refine ways_take (i := 5) (d := some 187) (v := ?_) (by simp only [List.getElem?_toArray, List.getElem?_cons_succ, List.getElem?_cons_zero] <;> rfl) (by rfl) (by kernel_rfl) (by kernel_rfl) (by kernel_rfl) (fun _ _ _ h => h) (by rfl) ?_ ?_
                  rotate_left
                  · ((intro u hu); go_simp; try with_reducible rfl)
                  try simp only [Act.put, List.setIfInBounds_toArray, List.set_cons_zero, List.set_cons_succ]
                  refine ways_take (i := 6) (d := some 188) (v := ?_) (by simp only [List.getElem?_toArray, List.getElem?_cons_succ, List.getElem?_cons_zero] <;> rfl) (by rfl) (by kernel_rfl) (by kernel_rfl) (by kernel_rfl) (fun _ _ _ h => h) (by rfl) ?_ ?_
                  rotate_left
                  · ((intro u hu); go_simp; try with_reducible rfl)
                  try simp only [Act.put, List.setIfInBounds_toArray, List.set_cons_zero, List.set_cons_succ]
                  refine ways_take (i := 7) (d := some 189) (v := ?_) (by simp only [List.getElem?_toArray, List.getElem?_cons_succ, List.getElem?_cons_zero] <;> rfl) (by rfl) (by kernel_rfl) (by kernel_rfl) (by kernel_rfl) (fun _ _ _ h => h) (by rfl) ?_ ?_
                  rotate_left
                  · ((intro u hu); go_simp; try with_reducible rfl)
                  try simp only [Act.put, List.setIfInBounds_toArray, List.set_cons_zero, List.set_cons_succ]
                  refine ways_skip (i := 8) (d := some 190) (by simp only [List.getElem?_toArray, List.getElem?_cons_succ, List.getElem?_cons_zero] <;> rfl) (by rfl) (by kernel_rfl) (by kernel_rfl) (by kernel_rfl) (fun _ _ _ h => h) (by rfl) ?_
                  try simp only [Act.put, List.setIfInBounds_toArray, List.set_cons_zero, List.set_cons_succ]
                  refine ways_skip (i := 9) (d := some 191) (by simp only [List.getElem?_toArray, List.getElem?_cons_succ, List.getElem?_cons_zero] <;> rfl) (by rfl) (by kernel_rfl) (by kernel_rfl) (by kernel_rfl) (fun _ _ _ h => h) (by rfl) ?_
                  try simp only [Act.put, List.setIfInBounds_toArray, List.set_cons_zero, List.set_cons_succ]
                  refine ways_skip (i := 10) (d := some 192) (by simp only [List.getElem?_toArray, List.getElem?_cons_succ, List.getElem?_cons_zero] <;> rfl) (by rfl) (by kernel_rfl) (by kernel_rfl) (by kernel_rfl) (fun _ _ _ h => h) (by rfl) ?_
                  try simp only [Act.put, List.setIfInBounds_toArray, List.set_cons_zero, List.set_cons_succ]
                  refine ways_skip (i := 11) (d := some 193) (by simp only [List.getElem?_toArray, List.getElem?_cons_succ, List.getElem?_cons_zero] <;> rfl) (by rfl) (by kernel_rfl) (by kernel_rfl) (by kernel_rfl) (fun _ _ _ h => h) (by rfl) ?_
                  try simp only [Act.put, List.setIfInBounds_toArray, List.set_cons_zero, List.set_cons_succ]
                  refine ways_skip (i := 12) (d := some 194) (by simp only [List.getElem?_toArray, List.getElem?_cons_succ, List.getElem?_cons_zero] <;> rfl) (by rfl) (by kernel_rfl) (by kernel_rfl) (by kernel_rfl) (fun _ _ _ h => h) (by rfl) ?_
                  try simp only [Act.put, List.setIfInBounds_toArray, List.set_cons_zero, List.set_cons_succ]
                  refine ways_skip (i := 13) (d := some 195) (by simp only [List.getElem?_toArray, List.getElem?_cons_succ, List.getElem?_cons_zero] <;> rfl) (by rfl) (by kernel_rfl) (by kernel_rfl) (by kernel_rfl) (fun _ _ _ h => h) (by rfl) ?_
                  try simp only [Act.put, List.setIfInBounds_toArray, List.set_cons_zero, List.set_cons_succ]
                  refine ways_skip (i := 14) (d := some 196) (by simp only [List.getElem?_toArray, List.getElem?_cons_succ, List.getElem?_cons_zero] <;> rfl) (by rfl) (by kernel_rfl) (by kernel_rfl) (by kernel_rfl) (fun _ _ _ h => h) (by rfl) ?_
                  try simp only [Act.put, List.setIfInBounds_toArray, List.set_cons_zero, List.set_cons_succ]
                  refine ways_skip (i := 15) (d := some 197) (by simp only [List.getElem?_toArray, List.getElem?_cons_succ, List.getElem?_cons_zero] <;> rfl) (by rfl) (by kernel_rfl) (by kernel_rfl) (by kernel_rfl) (fun _ _ _ h => h) (by rfl) ?_
                  try simp only [Act.put, List.setIfInBounds_toArray, List.set_cons_zero, List.set_cons_succ]
                  refine ways_skip (i := 16) (d := some 198) (by simp only [List.getElem?_toArray, List.getElem?_cons_succ, List.getElem?_cons_zero] <;> rfl) (by rfl) (by kernel_rfl) (by kernel_rfl) (by kernel_rfl) (fun _ _ _ h => h) (by rfl) ?_
                  try simp only [Act.put, List.setIfInBounds_toArray, List.set_cons_zero, List.set_cons_succ]
                  refine ways_take (i := 17) (d := some 199) (v := ?_) (by simp only [List.getElem?_toArray, List.getElem?_cons_succ, List.getElem?_cons_zero] <;> rfl) (by rfl) (by kernel_rfl) (by kernel_rfl) (by kernel_rfl) (fun _ _ _ h => h) (by rfl) ?_ ?_
                  rotate_left
                  · ((intro u hu); go_simp; try with_reducible rfl)
                  try simp only [Act.put, List.setIfInBounds_toArray, List.set_cons_zero, List.set_cons_succ]
                  refine ways_take (i := 18) (d := some 200) (v := ?_) (by simp only [List.getElem?_toArray, List.getElem?_cons_succ, List.getElem?_cons_zero] <;> rfl) (by rfl) (by kernel_rfl) (by kernel_rfl) (by kernel_rfl) (fun _ _ _ h => h) (by rfl) ?_ ?_
                  rotate_left
                  · ((intro u hu); go_simp; try with_reducible rfl)
                  try simp only [Act.put, List.setIfInBounds_toArray, List.set_cons_zero, List.set_cons_succ]
                  refine ways_one (i := 19) (by simp only [List.getElem?_toArray, List.getElem?_cons_succ, List.getElem?_cons_zero] <;> rfl) (by kernel_rfl) (by rfl) (fun u hu K hK => ?_)
                  replace hB := gb_trans hB hu
                  go_simp
                  refine (addressed_any _).mono ?_
                  rintro e w119 ⟨rfl, hb19⟩
                  have hg19 := gbB (r := none) hb19
                  refine hK.out _ _ hg19 ?_
                  replace hB := gb_trans hB hg19
                  clear hK K hu
                  try simp only [Act.put, List.setIfInBounds_toArray, List.set_cons_zero, List.set_cons_succ]
                  refine ways_take (i := 20) (d := some 202) (v := ?_) (by simp only [List.getElem?_toArray, List.getElem?_cons_succ, List.getElem?_cons_zero] <;> rfl) (by rfl) (by kernel_rfl) (by kernel_rfl) (by kernel_rfl) (fun _ _ _ h => h) (by rfl) ?_ ?_
                  rotate_left
                  · ((intro u hu); go_simp; try with_reducible rfl)
                  try simp only [Act.put, List.setIfInBounds_toArray, List.set_cons_zero, List.set_cons_succ]
                  refine ways_take (i := 21) (d := some 2) (v := ?_) (by simp only [List.getElem?_toArray, List.getElem?_cons_succ, List.getElem?_cons_zero] <;> rfl) (by rfl) (by kernel_rfl) (by kernel_rfl) (by kernel_rfl) (fun _ _ _ h => h) (by rfl) ?_ ?_
                  rotate_left
                  · ((intro u hu); go_simp; try with_reducible rfl)
                  try simp only [Act.put, List.setIfInBounds_toArray, List.set_cons_zero, List.set_cons_succ]
                  refine ways_done (by kernel_rfl) (fun u hu => ?_) _
                  replace hB := gb_trans hB hu
                  clear hu
                  go_wp2_with fail
                  go_ret
                  exact ⟨rfl, hH1.base.trans ((gb2B hB).mono hH1.base.size)⟩

end Go.Proofs.YtlnflihnmdpilaaDoor
