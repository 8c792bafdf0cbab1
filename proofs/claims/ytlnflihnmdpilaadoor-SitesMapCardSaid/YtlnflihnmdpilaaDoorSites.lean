/- SitesMap: Via and Site are as specified. -/
import Derived.Test.YtlnflihnmdpilaaDoorSiteD
import Derived.Test.YtlnflihnmdpilaaDoorLaneD
import Derived.Test.YtlnflihnmdpilaaDoorPfxA
import Derived.Test.YtlnflihnmdpilaaDoorAddressed
import Derived.Deep.RegionHeld3
import Derived.Deep.DeepCutAuto
import Derived.Laws.Bits64
namespace Go.Proofs.YtlnflihnmdpilaaDoor
open Go.RowKit

theorem xor48 (x : Int) (h1 : 0 ≤ x) (h2 : x < 18446744073709551616) : 0 ≤ bits .xor .u64 x 281474976710656 ∧ bits .xor .u64 x 281474976710656 < 18446744073709551616 := by
  obtain ⟨X, rfl⟩ := Int.eq_ofNat_of_zero_le h1
  have e := bits_xor_u64_nat X 281474976710656 (by omega) (by decide)
  have l : X ^^^ 281474976710656 < 2 ^ 64 := Nat.xor_lt_two_pow (by omega) (by decide)
  rw [show (281474976710656 : Int) = ((281474976710656 : Nat) : Int) from rfl, e]
  exact ⟨by omega, by omega⟩

theorem siteOut_false {k : Int} (h : siteOut k = false) : ¬ k < 0 ∧ ¬ 65535 < k := by
  have := of_decide_eq_false h; omega

/-- What Via gives, as four numbers. -/
theorem via_four (k : Int) (s : Bool) (hi lo n : Int) (h1 : 0 ≤ hi) (h2 : hi < 18446744073709551616) (h3 : 0 ≤ lo) (h4 : lo < 18446744073709551616) :
    ∃ ps ph pl pn, (∀ w', Hid (Calls Tryd.prog 33 #[.int .i64 k, .agg #[.bool s, .int .u64 hi, .int .u64 lo, .int .i64 n]] w' (GivesV (pfR (.agg #[.bool ps, .int .u64 ph, .int .u64 pl, .int .i64 pn]) (viaF k s hi lo n)) w'))) ∧
      (viaF k s hi lo n = 0 → (ps = true ∧ ph = 18230690457315508224 ∧ pl = k * 4294967296 + lo ∧ pn = 96 + n) ∧ 0 ≤ k ∧ k ≤ 65535 ∧ s = false ∧ pfF s hi lo n = 0) ∧ (viaF k s hi lo n ≠ 0 → ps = false ∧ ph = 0 ∧ pl = 0 ∧ pn = 0) := by
  by_cases hf : viaF k s hi lo n = 0
  · refine ⟨true, 18230690457315508224, k * 4294967296 + lo, 96 + n, fun w' => ?_, fun _ => ?_, fun h => absurd hf h⟩
    · obtain ⟨p', hp', h0', _⟩ := via_any k s hi lo n w' h1 h2 h3 h4
      rw [(h0' hf).1] at hp'; exact hp'
    · obtain ⟨p, _, h0, _⟩ := via_any k s hi lo n default h1 h2 h3 h4
      exact ⟨⟨rfl, rfl, rfl, rfl⟩, (h0 hf).2⟩
  · refine ⟨false, 0, 0, 0, fun w' => ?_, fun h => absurd h hf, fun _ => ⟨rfl, rfl, rfl, rfl⟩⟩
    obtain ⟨p', hp', _, h1'⟩ := via_any k s hi lo n w' h1 h2 h3 h4
    rw [h1' hf] at hp'; exact hp'

/-- What is kept in SitesMap: the stream b, the prefix p, Via's result q. -/
structure Held (w0 : World) (b R p q : Nat) (s : Bool) (hi lo n : Int) (ps : Bool) (ph pl pn : Int) (w : World) : Prop where
  str : Str w b R
  blk : Blk w p [.bool s, .int .u64 hi, .int .u64 lo, .int .i64 n] 42
  blq : Blk w q [.bool ps, .int .u64 ph, .int .u64 pl, .int .i64 pn] 42
  base : Below w0.heap.size w0 w
theorem Held.below {w0 : World} {b R p q : Nat} {s : Bool} {hi lo n : Int} {ps : Bool} {ph pl pn : Int} {w w' : World} (h : Held w0 b R p q s hi lo n ps ph pl pn w) (hb : Below w.heap.size w w') : Held w0 b R p q s hi lo n ps ph pl pn w' :=
  ⟨h.str.below hb, h.blk.below hb, h.blq.below hb, h.base.trans (hb.mono h.base.size)⟩
theorem Held.drew {w0 : World} {b R p q : Nat} {s : Bool} {hi lo n : Int} {ps : Bool} {ph pl pn : Int} {w : World} (h : Held w0 b R p q s hi lo n ps ph pl pn w) : Held w0 b R p q s hi lo n ps ph pl pn w.drew := ⟨h.str.drew, h.blk, h.blq, h.base.drew⟩
theorem Held.drewN {w0 : World} {b R p q m : Nat} {s : Bool} {hi lo n : Int} {ps : Bool} {ph pl pn : Int} {w : World} (h : Held w0 b R p q s hi lo n ps ph pl pn w) : Held w0 b R p q s hi lo n ps ph pl pn (w.drewN m) := ⟨h.str.drewN, h.blk, h.blq, belowN h.base⟩
theorem Held.alloc {w0 : World} {b R p q : Nat} {s : Bool} {hi lo n : Int} {ps : Bool} {ph pl pn : Int} {w : World} (h : Held w0 b R p q s hi lo n ps ph pl pn w) (o : Obj) : Held w0 b R p q s hi lo n ps ph pl pn (w.alloc o) := ⟨h.str.alloc o, h.blk.alloc o, h.blq.alloc o, h.base.alloc h.base.size o⟩

theorem gbToB {w u : World} (h : w.grownBy u none) : Below w.heap.size w u := ⟨h.os, h.tape, h.output, h.size, fun k hk => h.block k hk (by simp)⟩
theorem Blk.gbn {w u : World} {p : Nat} {cs : List Value} {t : TypeId} (h : Blk w p cs t) (hg : w.grownBy u none) : Blk u p cs t := h.below (gbToB hg)

set_option linter.unusedSimpArgs false in
set_option maxRecDepth 100000 in
set_option maxHeartbeats 2000000 in
theorem sites_walk (a : Option Addr) (len cap : Nat) (w : World) (hs : Str (w.alloc (.cells #[.slice a len cap, .int .i64 0] 25)) w.heap.size 1000) :
    Calls Tryd.prog 5 #[.slice a len cap] w fun e w' => e = .returned (.bool true) ∧ Below w.heap.size w w' := by
  have hB0 : Below w.heap.size w (w.alloc (.cells #[.slice a len cap, .int .i64 0] 25)) := (Below.refl _ _).alloc (Nat.le_refl _) _
  go_enter Tryd.func5, Tryd.ntmps5
  go_wp2_with fail
  refine (odd_any _ _ _ _ 998 (by omega) (by omega) (by omega) hs).mono ?_
  rintro e w1 ⟨k, ⟨hk1, hk2⟩, rfl, hs1, hg1⟩
  have hC1 : Below w.heap.size w w1 := hB0.trans (gb_toBelow hg1 (Nat.le_refl _) (by simp))
  clear hs hB0
  go_wp2_with fail
  refine (prefix_any _ _ 984 hs1).mono ?_
  rintro e w2 ⟨s, hi, lo, n, ⟨⟨h1, h2⟩, ⟨h3, h4⟩, hn1, hn2⟩, rfl, hs2, hg2⟩
  have hC2 : Below w.heap.size w w2 := hC1.trans (gb_toBelow hg2 (Nat.le_refl _) (by have := hs1.lt; omega))
  have hb2 := hs2.lt
  obtain ⟨ps, ph, pl, pn, HV, hV0, hV1⟩ := via_four k s hi lo n h1 h2 h3 h4
  have HV0 := Lib.hid hV0
  have HV1 := Lib.hid hV1
  have hL := Blk.new w2 [.bool s, .int .u64 hi, .int .u64 lo, .int .i64 n] 42
  have hz2 := hC2.size
  clear hV0 hV1 hs1 hg1 hg2 hC1
  go_wp2_with fail
  refine (HV _).out.mono ?_
  rintro e w3 ⟨rfl, hb3⟩
  have hH : Held w w.heap.size 984 w2.heap.size w3.heap.size s hi lo n ps ph pl pn (w3.alloc (.cells #[.bool ps, .int .u64 ph, .int .u64 pl, .int .i64 pn] 42)) :=
    ⟨((hs2.alloc _).below hb3).alloc _, (hL.below hb3).alloc _, Blk.new w3 [.bool ps, .int .u64 ph, .int .u64 pl, .int .i64 pn] 42, ((hC2.alloc hz2 _).trans (hb3.mono (by simp; omega))).alloc (by have := hb3.size; simp at this; omega) _⟩
  obtain ⟨F, hF⟩ : ∃ F, F = viaF k s hi lo n := ⟨_, rfl⟩
  rw [← hF]
  have HF' := Lib.hid hF
  clear hF hL hs2 hb3 hC2
  go_upto_region 4 with fail
  go_cut [8] (fun s8 wx => s8 = .int .i64 F ∧ Held w w.heap.size 984 w2.heap.size w3.heap.size s hi lo n ps ph pl pn wx)
  case first =>
    have hB := gb_refl (w3.alloc (.cells #[.bool ps, .int .u64 ph, .int .u64 pl, .int .i64 pn] 42)) none
    have HF : Hid (∀ u, (w3.alloc (.cells #[.bool ps, .int .u64 ph, .int .u64 pl, .int .i64 pn] 42)).grownBy u none → _) := Lib.hid fun u hu => (hH.blk.gbn hu).four
    have hk : k < 0 ∨ (¬ k < 0 ∧ 65535 < k) ∨ (¬ k < 0 ∧ ¬ 65535 < k) := by omega
    have hO : siteOut k = decide (k < 0 ∨ 65535 < k) := rfl
    rcases hk with hk | ⟨hk, hk'⟩ | ⟨hk, hk'⟩
    · have HO := Lib.hid (hO.trans (decide_eq_true (.inl hk)))
      clear hO
      refine ways_begin (none) (by kernel_rfl) ?_
      replace hB := gb_drew hB
      refine ways_take (i := 0) (d := some 31) (v := ?_) (by simp only [List.getElem?_toArray, List.getElem?_cons_succ, List.getElem?_cons_zero] <;> rfl) (by rfl) (by kernel_rfl) (by kernel_rfl) (by kernel_rfl) (fun _ _ _ h => h) (by rfl) ?_ ?_
      rotate_left
      · ((intro u hu); go_simp; try with_reducible rfl)
      try simp only [Act.put, List.setIfInBounds_toArray, List.set_cons_zero, List.set_cons_succ]
      refine ways_take (i := 1) (d := some 32) (v := ?_) (by simp only [List.getElem?_toArray, List.getElem?_cons_succ, List.getElem?_cons_zero] <;> rfl) (by rfl) (by kernel_rfl) (by kernel_rfl) (by kernel_rfl) (fun _ _ _ h => h) (by rfl) ?_ ?_
      rotate_left
      · ((intro u hu); go_simp; try with_reducible rfl)
      try simp only [Act.put, List.setIfInBounds_toArray, List.set_cons_zero, List.set_cons_succ]
      refine ways_take (i := 2) (d := some 33) (v := ?_) (by simp only [List.getElem?_toArray, List.getElem?_cons_succ, List.getElem?_cons_zero] <;> rfl) (by rfl) (by kernel_rfl) (by kernel_rfl) (by kernel_rfl) (fun _ _ _ h => h) (by rfl) ?_ ?_
      rotate_left
      · ((intro u hu); go_simp; try with_reducible rfl)
      try simp only [Act.put, List.setIfInBounds_toArray, List.set_cons_zero, List.set_cons_succ]
      refine ways_skip (i := 3) (d := some 34) (by simp only [List.getElem?_toArray, List.getElem?_cons_succ, List.getElem?_cons_zero] <;> rfl) (by rfl) (by kernel_rfl) (by kernel_rfl) (by kernel_rfl) (fun _ _ _ h => h) (by rfl) ?_
      try simp only [Act.put, List.setIfInBounds_toArray, List.set_cons_zero, List.set_cons_succ]
      refine ways_skip (i := 4) (d := some 35) (by simp only [List.getElem?_toArray, List.getElem?_cons_succ, List.getElem?_cons_zero] <;> rfl) (by rfl) (by kernel_rfl) (by kernel_rfl) (by kernel_rfl) (fun _ _ _ h => h) (by rfl) ?_
      try simp only [Act.put, List.setIfInBounds_toArray, List.set_cons_zero, List.set_cons_succ]
      refine ways_take (i := 5) (d := some 36) (v := ?_) (by simp only [List.getElem?_toArray, List.getElem?_cons_succ, List.getElem?_cons_zero] <;> rfl) (by rfl) (by kernel_rfl) (by kernel_rfl) (by kernel_rfl) (fun _ _ _ h => h) (by rfl) ?_ ?_
      rotate_left
      · ((intro u hu); go_simp; try with_reducible rfl)
      try simp only [Act.put, List.setIfInBounds_toArray, List.set_cons_zero, List.set_cons_succ]
      refine ways_take (i := 7) (d := some 38) (v := ?_) (by simp only [List.getElem?_toArray, List.getElem?_cons_succ, List.getElem?_cons_zero] <;> rfl) (by rfl) (by kernel_rfl) (by kernel_rfl) (by kernel_rfl) (fun _ _ _ h => h) (by rfl) ?_ ?_
      rotate_left
      · ((intro u hu); obtain ⟨c0, c1, c2, c3, _⟩ := HF.out u (gb_trans hB hu); go_simp; try with_reducible rfl)
      try simp only [Act.put, List.setIfInBounds_toArray, List.set_cons_zero, List.set_cons_succ]
      refine ways_take (i := 9) (d := some 40) (v := ?_) (by simp only [List.getElem?_toArray, List.getElem?_cons_succ, List.getElem?_cons_zero] <;> rfl) (by rfl) (by kernel_rfl) (by kernel_rfl) (by kernel_rfl) (fun _ _ _ h => h) (by rfl) ?_ ?_
      rotate_left
      · ((intro u hu); go_simp; try with_reducible rfl)
      try simp only [Act.put, List.setIfInBounds_toArray, List.set_cons_zero, List.set_cons_succ]
      refine ways_take (i := 10) (d := some 41) (v := ?_) (by simp only [List.getElem?_toArray, List.getElem?_cons_succ, List.getElem?_cons_zero] <;> rfl) (by rfl) (by kernel_rfl) (by kernel_rfl) (by kernel_rfl) (fun _ _ _ h => h) (by rfl) ?_ ?_
      rotate_left
      · ((intro u hu); go_simp; try with_reducible rfl)
      try simp only [Act.put, List.setIfInBounds_toArray, List.set_cons_zero, List.set_cons_succ]
      refine ways_take (i := 11) (d := some 42) (v := ?_) (by simp only [List.getElem?_toArray, List.getElem?_cons_succ, List.getElem?_cons_zero] <;> rfl) (by rfl) (by kernel_rfl) (by kernel_rfl) (by kernel_rfl) (fun _ _ _ h => h) (by rfl) ?_ ?_
      rotate_left
      · ((intro u hu); obtain ⟨c0, c1, c2, c3, _⟩ := HF.out u (gb_trans hB hu); go_simp; try with_reducible rfl)
      try simp only [Act.put, List.setIfInBounds_toArray, List.set_cons_zero, List.set_cons_succ]
      refine ways_one (i := 6) (by simp only [List.getElem?_toArray, List.getElem?_cons_succ, List.getElem?_cons_zero] <;> rfl) (by kernel_rfl) (by rfl) (fun u hu K hK => ?_)
      replace hB := gb_trans hB hu
      go_simp
      refine (when_any _ _ _).mono ?_
      rintro e w106 ⟨rfl, rfl⟩
      have hg6 := gb_refl u (none)
      refine hK.out _ _ hg6 ?_
      replace hB := gb_trans hB hg6
      clear hK K hu
      try simp only [Act.put, List.setIfInBounds_toArray, List.set_cons_zero, List.set_cons_succ]
      refine ways_one (i := 8) (by simp only [List.getElem?_toArray, List.getElem?_cons_succ, List.getElem?_cons_zero] <;> rfl) (by kernel_rfl) (by rfl) (fun u hu K hK => ?_)
      replace hB := gb_trans hB hu
      go_simp
      refine (prefixFault_any _ _ _ _ _ h1 h2 h3 h4).mono ?_
      rintro e w108 ⟨rfl, hb8⟩
      have hg8 := gbB (r := none) hb8
      refine hK.out _ _ hg8 ?_
      replace hB := gb_trans hB hg8
      clear hK K hu
      try simp only [Act.put, List.setIfInBounds_toArray, List.set_cons_zero, List.set_cons_succ]
      refine ways_one (i := 12) (by simp only [List.getElem?_toArray, List.getElem?_cons_succ, List.getElem?_cons_zero] <;> rfl) (by kernel_rfl) (by rfl) (fun u hu K hK => ?_)
      replace hB := gb_trans hB hu
      go_simp
      refine (when_any _ _ _).mono ?_
      rintro e w112 ⟨rfl, rfl⟩
      have hg12 := gb_refl u (none)
      refine hK.out _ _ hg12 ?_
      replace hB := gb_trans hB hg12
      clear hK K hu
      try simp only [Act.put, List.setIfInBounds_toArray, List.set_cons_zero, List.set_cons_succ]
      refine ways_one (i := 13) (by simp only [List.getElem?_toArray, List.getElem?_cons_succ, List.getElem?_cons_zero] <;> rfl) (by kernel_rfl) (by rfl) (fun u hu K hK => ?_)
      replace hB := gb_trans hB hu
      go_simp
      refine hK.out _ _ (World.grownBy_alloc _ _ _) ?_
      clear hK K hu
      try simp only [Act.put, List.setIfInBounds_toArray, List.set_cons_zero, List.set_cons_succ]
      refine ways_one (i := 14) (by simp only [List.getElem?_toArray, List.getElem?_cons_succ, List.getElem?_cons_zero] <;> rfl) (by kernel_rfl) (by rfl) (fun u hu K hK => ?_)
      replace hB := gb_trans hB (gb_trans (World.grownBy_alloc _ _ _) hu)
      go_simp
      refine (errs_after [whenZ true 1, pfF s hi lo n, whenZ s 10] _ (by simp) (by simp) hu).mono ?_
      rintro e w114 ⟨rfl, rfl⟩
      have hg14 := gb_refl u (none)
      refine hK.out _ _ hg14 ?_
      replace hB := gb_trans hB hg14
      clear hK K hu
      try simp only [Act.put, List.setIfInBounds_toArray, List.set_cons_zero, List.set_cons_succ]
      refine ways_take (i := 15) (d := some 8) (v := ?_) (by simp only [List.getElem?_toArray, List.getElem?_cons_succ, List.getElem?_cons_zero] <;> rfl) (by rfl) (by kernel_rfl) (by kernel_rfl) (by kernel_rfl) (fun _ _ _ h => h) (by rfl) ?_ ?_
      rotate_left
      · ((intro u hu); go_simp; try with_reducible rfl)
      try simp only [Act.put, List.setIfInBounds_toArray, List.set_cons_zero, List.set_cons_succ]
      refine ways_done (by kernel_rfl) (fun u hu => ?_) _
      replace hB := gb_trans hB hu
      clear hu
      have hH5 := hH.below (gbToB hB)
      clear hB
      go_wp2_with fail
      go_meet
      exact ⟨by rw [HF'.out]; unfold viaF; rw [HO.out], hH5⟩
    · have HO := Lib.hid (hO.trans (decide_eq_true (.inr hk')))
      clear hO
      refine ways_begin (none) (by kernel_rfl) ?_
      replace hB := gb_drew hB
      refine ways_take (i := 0) (d := some 31) (v := ?_) (by simp only [List.getElem?_toArray, List.getElem?_cons_succ, List.getElem?_cons_zero] <;> rfl) (by rfl) (by kernel_rfl) (by kernel_rfl) (by kernel_rfl) (fun _ _ _ h => h) (by rfl) ?_ ?_
      rotate_left
      · ((intro u hu); go_simp; try with_reducible rfl)
      try simp only [Act.put, List.setIfInBounds_toArray, List.set_cons_zero, List.set_cons_succ]
      refine ways_take (i := 1) (d := some 32) (v := ?_) (by simp only [List.getElem?_toArray, List.getElem?_cons_succ, List.getElem?_cons_zero] <;> rfl) (by rfl) (by kernel_rfl) (by kernel_rfl) (by kernel_rfl) (fun _ _ _ h => h) (by rfl) ?_ ?_
      rotate_left
      · ((intro u hu); go_simp; try with_reducible rfl)
      try simp only [Act.put, List.setIfInBounds_toArray, List.set_cons_zero, List.set_cons_succ]
      refine ways_take (i := 2) (d := some 33) (v := ?_) (by simp only [List.getElem?_toArray, List.getElem?_cons_succ, List.getElem?_cons_zero] <;> rfl) (by rfl) (by kernel_rfl) (by kernel_rfl) (by kernel_rfl) (fun _ _ _ h => h) (by rfl) ?_ ?_
      rotate_left
      · ((intro u hu); go_simp; try with_reducible rfl)
      try simp only [Act.put, List.setIfInBounds_toArray, List.set_cons_zero, List.set_cons_succ]
      refine ways_take (i := 3) (d := some 34) (v := ?_) (by simp only [List.getElem?_toArray, List.getElem?_cons_succ, List.getElem?_cons_zero] <;> rfl) (by rfl) (by kernel_rfl) (by kernel_rfl) (by kernel_rfl) (fun _ _ _ h => h) (by rfl) ?_ ?_
      rotate_left
      · ((intro u hu); go_simp; try with_reducible rfl)
      try simp only [Act.put, List.setIfInBounds_toArray, List.set_cons_zero, List.set_cons_succ]
      refine ways_take (i := 4) (d := some 35) (v := ?_) (by simp only [List.getElem?_toArray, List.getElem?_cons_succ, List.getElem?_cons_zero] <;> rfl) (by rfl) (by kernel_rfl) (by kernel_rfl) (by kernel_rfl) (fun _ _ _ h => h) (by rfl) ?_ ?_
      rotate_left
      · ((intro u hu); go_simp; try with_reducible rfl)
      try simp only [Act.put, List.setIfInBounds_toArray, List.set_cons_zero, List.set_cons_succ]
      refine ways_take (i := 5) (d := some 36) (v := ?_) (by simp only [List.getElem?_toArray, List.getElem?_cons_succ, List.getElem?_cons_zero] <;> rfl) (by rfl) (by kernel_rfl) (by kernel_rfl) (by kernel_rfl) (fun _ _ _ h => h) (by rfl) ?_ ?_
      rotate_left
      · ((intro u hu); go_simp; try with_reducible rfl)
      try simp only [Act.put, List.setIfInBounds_toArray, List.set_cons_zero, List.set_cons_succ]
      refine ways_take (i := 7) (d := some 38) (v := ?_) (by simp only [List.getElem?_toArray, List.getElem?_cons_succ, List.getElem?_cons_zero] <;> rfl) (by rfl) (by kernel_rfl) (by kernel_rfl) (by kernel_rfl) (fun _ _ _ h => h) (by rfl) ?_ ?_
      rotate_left
      · ((intro u hu); obtain ⟨c0, c1, c2, c3, _⟩ := HF.out u (gb_trans hB hu); go_simp; try with_reducible rfl)
      try simp only [Act.put, List.setIfInBounds_toArray, List.set_cons_zero, List.set_cons_succ]
      refine ways_take (i := 9) (d := some 40) (v := ?_) (by simp only [List.getElem?_toArray, List.getElem?_cons_succ, List.getElem?_cons_zero] <;> rfl) (by rfl) (by kernel_rfl) (by kernel_rfl) (by kernel_rfl) (fun _ _ _ h => h) (by rfl) ?_ ?_
      rotate_left
      · ((intro u hu); go_simp; try with_reducible rfl)
      try simp only [Act.put, List.setIfInBounds_toArray, List.set_cons_zero, List.set_cons_succ]
      refine ways_take (i := 10) (d := some 41) (v := ?_) (by simp only [List.getElem?_toArray, List.getElem?_cons_succ, List.getElem?_cons_zero] <;> rfl) (by rfl) (by kernel_rfl) (by kernel_rfl) (by kernel_rfl) (fun _ _ _ h => h) (by rfl) ?_ ?_
      rotate_left
      · ((intro u hu); go_simp; try with_reducible rfl)
      try simp only [Act.put, List.setIfInBounds_toArray, List.set_cons_zero, List.set_cons_succ]
      refine ways_take (i := 11) (d := some 42) (v := ?_) (by simp only [List.getElem?_toArray, List.getElem?_cons_succ, List.getElem?_cons_zero] <;> rfl) (by rfl) (by kernel_rfl) (by kernel_rfl) (by kernel_rfl) (fun _ _ _ h => h) (by rfl) ?_ ?_
      rotate_left
      · ((intro u hu); obtain ⟨c0, c1, c2, c3, _⟩ := HF.out u (gb_trans hB hu); go_simp; try with_reducible rfl)
      try simp only [Act.put, List.setIfInBounds_toArray, List.set_cons_zero, List.set_cons_succ]
      refine ways_one (i := 6) (by simp only [List.getElem?_toArray, List.getElem?_cons_succ, List.getElem?_cons_zero] <;> rfl) (by kernel_rfl) (by rfl) (fun u hu K hK => ?_)
      replace hB := gb_trans hB hu
      go_simp
      refine (when_any _ _ _).mono ?_
      rintro e w106 ⟨rfl, rfl⟩
      have hg6 := gb_refl u (none)
      refine hK.out _ _ hg6 ?_
      replace hB := gb_trans hB hg6
      clear hK K hu
      try simp only [Act.put, List.setIfInBounds_toArray, List.set_cons_zero, List.set_cons_succ]
      refine ways_one (i := 8) (by simp only [List.getElem?_toArray, List.getElem?_cons_succ, List.getElem?_cons_zero] <;> rfl) (by kernel_rfl) (by rfl) (fun u hu K hK => ?_)
      replace hB := gb_trans hB hu
      go_simp
      refine (prefixFault_any _ _ _ _ _ h1 h2 h3 h4).mono ?_
      rintro e w108 ⟨rfl, hb8⟩
      have hg8 := gbB (r := none) hb8
      refine hK.out _ _ hg8 ?_
      replace hB := gb_trans hB hg8
      clear hK K hu
      try simp only [Act.put, List.setIfInBounds_toArray, List.set_cons_zero, List.set_cons_succ]
      refine ways_one (i := 12) (by simp only [List.getElem?_toArray, List.getElem?_cons_succ, List.getElem?_cons_zero] <;> rfl) (by kernel_rfl) (by rfl) (fun u hu K hK => ?_)
      replace hB := gb_trans hB hu
      go_simp
      refine (when_any _ _ _).mono ?_
      rintro e w112 ⟨rfl, rfl⟩
      have hg12 := gb_refl u (none)
      refine hK.out _ _ hg12 ?_
      replace hB := gb_trans hB hg12
      clear hK K hu
      try simp only [Act.put, List.setIfInBounds_toArray, List.set_cons_zero, List.set_cons_succ]
      refine ways_one (i := 13) (by simp only [List.getElem?_toArray, List.getElem?_cons_succ, List.getElem?_cons_zero] <;> rfl) (by kernel_rfl) (by rfl) (fun u hu K hK => ?_)
      replace hB := gb_trans hB hu
      go_simp
      refine hK.out _ _ (World.grownBy_alloc _ _ _) ?_
      clear hK K hu
      try simp only [Act.put, List.setIfInBounds_toArray, List.set_cons_zero, List.set_cons_succ]
      refine ways_one (i := 14) (by simp only [List.getElem?_toArray, List.getElem?_cons_succ, List.getElem?_cons_zero] <;> rfl) (by kernel_rfl) (by rfl) (fun u hu K hK => ?_)
      replace hB := gb_trans hB (gb_trans (World.grownBy_alloc _ _ _) hu)
      go_simp
      refine (errs_after [whenZ true 1, pfF s hi lo n, whenZ s 10] _ (by simp) (by simp) hu).mono ?_
      rintro e w114 ⟨rfl, rfl⟩
      have hg14 := gb_refl u (none)
      refine hK.out _ _ hg14 ?_
      replace hB := gb_trans hB hg14
      clear hK K hu
      try simp only [Act.put, List.setIfInBounds_toArray, List.set_cons_zero, List.set_cons_succ]
      refine ways_take (i := 15) (d := some 8) (v := ?_) (by simp only [List.getElem?_toArray, List.getElem?_cons_succ, List.getElem?_cons_zero] <;> rfl) (by rfl) (by kernel_rfl) (by kernel_rfl) (by kernel_rfl) (fun _ _ _ h => h) (by rfl) ?_ ?_
      rotate_left
      · ((intro u hu); go_simp; try with_reducible rfl)
      try simp only [Act.put, List.setIfInBounds_toArray, List.set_cons_zero, List.set_cons_succ]
      refine ways_done (by kernel_rfl) (fun u hu => ?_) _
      replace hB := gb_trans hB hu
      clear hu
      have hH5 := hH.below (gbToB hB)
      clear hB
      go_wp2_with fail
      go_meet
      exact ⟨by rw [HF'.out]; unfold viaF; rw [HO.out], hH5⟩
    · have HO := Lib.hid (hO.trans (decide_eq_false (by omega)))
      clear hO
      refine ways_begin (none) (by kernel_rfl) ?_
      replace hB := gb_drew hB
      refine ways_take (i := 0) (d := some 31) (v := ?_) (by simp only [List.getElem?_toArray, List.getElem?_cons_succ, List.getElem?_cons_zero] <;> rfl) (by rfl) (by kernel_rfl) (by kernel_rfl) (by kernel_rfl) (fun _ _ _ h => h) (by rfl) ?_ ?_
      rotate_left
      · ((intro u hu); go_simp; try with_reducible rfl)
      try simp only [Act.put, List.setIfInBounds_toArray, List.set_cons_zero, List.set_cons_succ]
      refine ways_take (i := 1) (d := some 32) (v := ?_) (by simp only [List.getElem?_toArray, List.getElem?_cons_succ, List.getElem?_cons_zero] <;> rfl) (by rfl) (by kernel_rfl) (by kernel_rfl) (by kernel_rfl) (fun _ _ _ h => h) (by rfl) ?_ ?_
      rotate_left
      · ((intro u hu); go_simp; try with_reducible rfl)
      try simp only [Act.put, List.setIfInBounds_toArray, List.set_cons_zero, List.set_cons_succ]
      refine ways_take (i := 2) (d := some 33) (v := ?_) (by simp only [List.getElem?_toArray, List.getElem?_cons_succ, List.getElem?_cons_zero] <;> rfl) (by rfl) (by kernel_rfl) (by kernel_rfl) (by kernel_rfl) (fun _ _ _ h => h) (by rfl) ?_ ?_
      rotate_left
      · ((intro u hu); go_simp; try with_reducible rfl)
      try simp only [Act.put, List.setIfInBounds_toArray, List.set_cons_zero, List.set_cons_succ]
      refine ways_take (i := 3) (d := some 34) (v := ?_) (by simp only [List.getElem?_toArray, List.getElem?_cons_succ, List.getElem?_cons_zero] <;> rfl) (by rfl) (by kernel_rfl) (by kernel_rfl) (by kernel_rfl) (fun _ _ _ h => h) (by rfl) ?_ ?_
      rotate_left
      · ((intro u hu); go_simp; try with_reducible rfl)
      try simp only [Act.put, List.setIfInBounds_toArray, List.set_cons_zero, List.set_cons_succ]
      refine ways_take (i := 4) (d := some 35) (v := ?_) (by simp only [List.getElem?_toArray, List.getElem?_cons_succ, List.getElem?_cons_zero] <;> rfl) (by rfl) (by kernel_rfl) (by kernel_rfl) (by kernel_rfl) (fun _ _ _ h => h) (by rfl) ?_ ?_
      rotate_left
      · ((intro u hu); go_simp; try with_reducible rfl)
      try simp only [Act.put, List.setIfInBounds_toArray, List.set_cons_zero, List.set_cons_succ]
      refine ways_take (i := 5) (d := some 36) (v := ?_) (by simp only [List.getElem?_toArray, List.getElem?_cons_succ, List.getElem?_cons_zero] <;> rfl) (by rfl) (by kernel_rfl) (by kernel_rfl) (by kernel_rfl) (fun _ _ _ h => h) (by rfl) ?_ ?_
      rotate_left
      · ((intro u hu); go_simp; try with_reducible rfl)
      try simp only [Act.put, List.setIfInBounds_toArray, List.set_cons_zero, List.set_cons_succ]
      refine ways_take (i := 7) (d := some 38) (v := ?_) (by simp only [List.getElem?_toArray, List.getElem?_cons_succ, List.getElem?_cons_zero] <;> rfl) (by rfl) (by kernel_rfl) (by kernel_rfl) (by kernel_rfl) (fun _ _ _ h => h) (by rfl) ?_ ?_
      rotate_left
      · ((intro u hu); obtain ⟨c0, c1, c2, c3, _⟩ := HF.out u (gb_trans hB hu); go_simp; try with_reducible rfl)
      try simp only [Act.put, List.setIfInBounds_toArray, List.set_cons_zero, List.set_cons_succ]
      refine ways_take (i := 9) (d := some 40) (v := ?_) (by simp only [List.getElem?_toArray, List.getElem?_cons_succ, List.getElem?_cons_zero] <;> rfl) (by rfl) (by kernel_rfl) (by kernel_rfl) (by kernel_rfl) (fun _ _ _ h => h) (by rfl) ?_ ?_
      rotate_left
      · ((intro u hu); go_simp; try with_reducible rfl)
      try simp only [Act.put, List.setIfInBounds_toArray, List.set_cons_zero, List.set_cons_succ]
      refine ways_take (i := 10) (d := some 41) (v := ?_) (by simp only [List.getElem?_toArray, List.getElem?_cons_succ, List.getElem?_cons_zero] <;> rfl) (by rfl) (by kernel_rfl) (by kernel_rfl) (by kernel_rfl) (fun _ _ _ h => h) (by rfl) ?_ ?_
      rotate_left
      · ((intro u hu); go_simp; try with_reducible rfl)
      try simp only [Act.put, List.setIfInBounds_toArray, List.set_cons_zero, List.set_cons_succ]
      refine ways_take (i := 11) (d := some 42) (v := ?_) (by simp only [List.getElem?_toArray, List.getElem?_cons_succ, List.getElem?_cons_zero] <;> rfl) (by rfl) (by kernel_rfl) (by kernel_rfl) (by kernel_rfl) (fun _ _ _ h => h) (by rfl) ?_ ?_
      rotate_left
      · ((intro u hu); obtain ⟨c0, c1, c2, c3, _⟩ := HF.out u (gb_trans hB hu); go_simp; try with_reducible rfl)
      try simp only [Act.put, List.setIfInBounds_toArray, List.set_cons_zero, List.set_cons_succ]
      refine ways_one (i := 6) (by simp only [List.getElem?_toArray, List.getElem?_cons_succ, List.getElem?_cons_zero] <;> rfl) (by kernel_rfl) (by rfl) (fun u hu K hK => ?_)
      replace hB := gb_trans hB hu
      go_simp
      refine (when_any _ _ _).mono ?_
      rintro e w106 ⟨rfl, rfl⟩
      have hg6 := gb_refl u (none)
      refine hK.out _ _ hg6 ?_
      replace hB := gb_trans hB hg6
      clear hK K hu
      try simp only [Act.put, List.setIfInBounds_toArray, List.set_cons_zero, List.set_cons_succ]
      refine ways_one (i := 8) (by simp only [List.getElem?_toArray, List.getElem?_cons_succ, List.getElem?_cons_zero] <;> rfl) (by kernel_rfl) (by rfl) (fun u hu K hK => ?_)
      replace hB := gb_trans hB hu
      go_simp
      refine (prefixFault_any _ _ _ _ _ h1 h2 h3 h4).mono ?_
      rintro e w108 ⟨rfl, hb8⟩
      have hg8 := gbB (r := none) hb8
      refine hK.out _ _ hg8 ?_
      replace hB := gb_trans hB hg8
      clear hK K hu
      try simp only [Act.put, List.setIfInBounds_toArray, List.set_cons_zero, List.set_cons_succ]
      refine ways_one (i := 12) (by simp only [List.getElem?_toArray, List.getElem?_cons_succ, List.getElem?_cons_zero] <;> rfl) (by kernel_rfl) (by rfl) (fun u hu K hK => ?_)
      replace hB := gb_trans hB hu
      go_simp
      refine (when_any _ _ _).mono ?_
      rintro e w112 ⟨rfl, rfl⟩
      have hg12 := gb_refl u (none)
      refine hK.out _ _ hg12 ?_
      replace hB := gb_trans hB hg12
      clear hK K hu
      try simp only [Act.put, List.setIfInBounds_toArray, List.set_cons_zero, List.set_cons_succ]
      refine ways_one (i := 13) (by simp only [List.getElem?_toArray, List.getElem?_cons_succ, List.getElem?_cons_zero] <;> rfl) (by kernel_rfl) (by rfl) (fun u hu K hK => ?_)
      replace hB := gb_trans hB hu
      go_simp
      refine hK.out _ _ (World.grownBy_alloc _ _ _) ?_
      clear hK K hu
      try simp only [Act.put, List.setIfInBounds_toArray, List.set_cons_zero, List.set_cons_succ]
      refine ways_one (i := 14) (by simp only [List.getElem?_toArray, List.getElem?_cons_succ, List.getElem?_cons_zero] <;> rfl) (by kernel_rfl) (by rfl) (fun u hu K hK => ?_)
      replace hB := gb_trans hB (gb_trans (World.grownBy_alloc _ _ _) hu)
      go_simp
      refine (errs_after [whenZ false 1, pfF s hi lo n, whenZ s 10] _ (by simp) (by simp) hu).mono ?_
      rintro e w114 ⟨rfl, rfl⟩
      have hg14 := gb_refl u (none)
      refine hK.out _ _ hg14 ?_
      replace hB := gb_trans hB hg14
      clear hK K hu
      try simp only [Act.put, List.setIfInBounds_toArray, List.set_cons_zero, List.set_cons_succ]
      refine ways_take (i := 15) (d := some 8) (v := ?_) (by simp only [List.getElem?_toArray, List.getElem?_cons_succ, List.getElem?_cons_zero] <;> rfl) (by rfl) (by kernel_rfl) (by kernel_rfl) (by kernel_rfl) (fun _ _ _ h => h) (by rfl) ?_ ?_
      rotate_left
      · ((intro u hu); go_simp; try with_reducible rfl)
      try simp only [Act.put, List.setIfInBounds_toArray, List.set_cons_zero, List.set_cons_succ]
      refine ways_done (by kernel_rfl) (fun u hu => ?_) _
      replace hB := gb_trans hB hu
      clear hu
      have hH5 := hH.below (gbToB hB)
      clear hB
      go_wp2_with fail
      go_meet
      exact ⟨by rw [HF'.out]; unfold viaF; rw [HO.out], hH5⟩
  case rest =>
    obtain ⟨rfl, hH2⟩ := hcut
    clear hH
    obtain ⟨c0, c1, c2, c3, _⟩ := hH2.blk.four
    obtain ⟨q0, q1, q2, q3, _⟩ := hH2.blq.four
    go_upto_region 5 with fail
    go_cut [68] (fun s68 wx => s68 = .bool false ∧ Held w w.heap.size 984 w2.heap.size w3.heap.size s hi lo n ps ph pl pn wx)
    case first =>
      by_cases hF0 : F = 0
      · obtain ⟨⟨rfl, rfl, rfl, rfl⟩, hk1', hk2', rfl, hpf⟩ := HV0.out (by rw [← HF'.out]; exact hF0)
        subst hF0
        have hp := pfF_zero hpf
        have hlo := (adF_four hp.1).2
        have hn1' := hp.2.1
        have hn2' : n ≤ 32 := hp.2.2.1
        have HO := fun w' => Lib.hid (viaOf_any k false hi lo n w' hk1' hk2' h3 hlo hn1' hn2')
        clear hp hpf HV HV0 HV1
        have hB := gb_refl wc none
        have HF : Hid (∀ u, wc.grownBy u none → _) := Lib.hid fun u hu => And.intro (hH2.blk.gbn hu).four (hH2.blq.gbn hu).four
        refine ways_begin (none) (by kernel_rfl) ?_
        replace hB := gb_drew hB
        refine ways_take (i := 0) (d := some 46) (v := ?_) (by simp only [List.getElem?_toArray, List.getElem?_cons_succ, List.getElem?_cons_zero] <;> rfl) (by rfl) (by kernel_rfl) (by kernel_rfl) (by kernel_rfl) (fun _ _ _ h => h) (by rfl) ?_ ?_
        rotate_left
        · ((intro u hu); go_simp; try with_reducible rfl)
        try simp only [Act.put, List.setIfInBounds_toArray, List.set_cons_zero, List.set_cons_succ]
        refine ways_take (i := 1) (d := some 47) (v := ?_) (by simp only [List.getElem?_toArray, List.getElem?_cons_succ, List.getElem?_cons_zero] <;> rfl) (by rfl) (by kernel_rfl) (by kernel_rfl) (by kernel_rfl) (fun _ _ _ h => h) (by rfl) ?_ ?_
        rotate_left
        · ((intro u hu); go_simp; try with_reducible rfl)
        try simp only [Act.put, List.setIfInBounds_toArray, List.set_cons_zero, List.set_cons_succ]
        refine ways_take (i := 2) (d := some 48) (v := ?_) (by simp only [List.getElem?_toArray, List.getElem?_cons_succ, List.getElem?_cons_zero] <;> rfl) (by rfl) (by kernel_rfl) (by kernel_rfl) (by kernel_rfl) (fun _ _ _ h => h) (by rfl) ?_ ?_
        rotate_left
        · ((intro u hu); go_simp; try with_reducible rfl)
        try simp only [Act.put, List.setIfInBounds_toArray, List.set_cons_zero, List.set_cons_succ]
        refine ways_take (i := 3) (d := some 49) (v := ?_) (by simp only [List.getElem?_toArray, List.getElem?_cons_succ, List.getElem?_cons_zero] <;> rfl) (by rfl) (by kernel_rfl) (by kernel_rfl) (by kernel_rfl) (fun _ _ _ h => h) (by rfl) ?_ ?_
        rotate_left
        · ((intro u hu); go_simp; try with_reducible rfl)
        try simp only [Act.put, List.setIfInBounds_toArray, List.set_cons_zero, List.set_cons_succ]
        refine ways_take (i := 4) (d := some 50) (v := ?_) (by simp only [List.getElem?_toArray, List.getElem?_cons_succ, List.getElem?_cons_zero] <;> rfl) (by rfl) (by kernel_rfl) (by kernel_rfl) (by kernel_rfl) (fun _ _ _ h => h) (by rfl) ?_ ?_
        rotate_left
        · ((intro u hu); go_simp; try with_reducible rfl)
        try simp only [Act.put, List.setIfInBounds_toArray, List.set_cons_zero, List.set_cons_succ]
        refine ways_take (i := 5) (d := some 51) (v := ?_) (by simp only [List.getElem?_toArray, List.getElem?_cons_succ, List.getElem?_cons_zero] <;> rfl) (by rfl) (by kernel_rfl) (by kernel_rfl) (by kernel_rfl) (fun _ _ _ h => h) (by rfl) ?_ ?_
        rotate_left
        · ((intro u hu); go_simp; try with_reducible rfl)
        try simp only [Act.put, List.setIfInBounds_toArray, List.set_cons_zero, List.set_cons_succ]
        refine ways_take (i := 6) (d := some 52) (v := ?_) (by simp only [List.getElem?_toArray, List.getElem?_cons_succ, List.getElem?_cons_zero] <;> rfl) (by rfl) (by kernel_rfl) (by kernel_rfl) (by kernel_rfl) (fun _ _ _ h => h) (by rfl) ?_ ?_
        rotate_left
        · ((intro u hu); go_simp; try with_reducible rfl)
        try simp only [Act.put, List.setIfInBounds_toArray, List.set_cons_zero, List.set_cons_succ]
        refine ways_take (i := 7) (d := some 53) (v := ?_) (by simp only [List.getElem?_toArray, List.getElem?_cons_succ, List.getElem?_cons_zero] <;> rfl) (by rfl) (by kernel_rfl) (by kernel_rfl) (by kernel_rfl) (fun _ _ _ h => h) (by rfl) ?_ ?_
        rotate_left
        · ((intro u hu); obtain ⟨⟨c0, c1, c2, c3, _⟩, ⟨q0, q1, q2, q3, _⟩⟩ := HF.out u (gb_trans hB hu); go_simp; try with_reducible rfl)
        try simp only [Act.put, List.setIfInBounds_toArray, List.set_cons_zero, List.set_cons_succ]
        refine ways_take (i := 8) (d := some 54) (v := ?_) (by simp only [List.getElem?_toArray, List.getElem?_cons_succ, List.getElem?_cons_zero] <;> rfl) (by rfl) (by kernel_rfl) (by kernel_rfl) (by kernel_rfl) (fun _ _ _ h => h) (by rfl) ?_ ?_
        rotate_left
        · ((intro u hu); go_simp; try with_reducible rfl)
        try simp only [Act.put, List.setIfInBounds_toArray, List.set_cons_zero, List.set_cons_succ]
        refine ways_take (i := 9) (d := some 55) (v := ?_) (by simp only [List.getElem?_toArray, List.getElem?_cons_succ, List.getElem?_cons_zero] <;> rfl) (by rfl) (by kernel_rfl) (by kernel_rfl) (by kernel_rfl) (fun _ _ _ h => h) (by rfl) ?_ ?_
        rotate_left
        · ((intro u hu); obtain ⟨⟨c0, c1, c2, c3, _⟩, ⟨q0, q1, q2, q3, _⟩⟩ := HF.out u (gb_trans hB hu); go_simp; try with_reducible rfl)
        try simp only [Act.put, List.setIfInBounds_toArray, List.set_cons_zero, List.set_cons_succ]
        refine ways_one (i := 10) (by simp only [List.getElem?_toArray, List.getElem?_cons_succ, List.getElem?_cons_zero] <;> rfl) (by kernel_rfl) (by rfl) (fun u hu K hK => ?_)
        replace hB := gb_trans hB hu
        go_simp
        refine ((HO _).out).mono ?_
        rintro e w110 ⟨rfl, hb10⟩
        have hg10 := gbB (r := none) hb10
        refine hK.out _ _ hg10 ?_
        replace hB := gb_trans hB hg10
        clear hK K hu
        try simp only [Act.put, List.setIfInBounds_toArray, List.set_cons_zero, List.set_cons_succ]
        refine ways_take (i := 11) (d := some 57) (v := ?_) (by simp only [List.getElem?_toArray, List.getElem?_cons_succ, List.getElem?_cons_zero] <;> rfl) (by rfl) (by kernel_rfl) (by kernel_rfl) (by kernel_rfl) (fun _ _ _ h => h) (by rfl) ?_ ?_
        rotate_left
        · ((intro u hu); go_simp; try with_reducible rfl)
        try simp only [Act.put, List.setIfInBounds_toArray, List.set_cons_zero, List.set_cons_succ]
        refine ways_take (i := 12) (d := some 58) (v := ?_) (by simp only [List.getElem?_toArray, List.getElem?_cons_succ, List.getElem?_cons_zero] <;> rfl) (by rfl) (by kernel_rfl) (by kernel_rfl) (by kernel_rfl) (fun _ _ _ h => h) (by rfl) ?_ ?_
        rotate_left
        · ((intro u hu); go_simp; try with_reducible rfl)
        try simp only [Act.put, List.setIfInBounds_toArray, List.set_cons_zero, List.set_cons_succ]
        refine ways_take (i := 13) (d := some 59) (v := ?_) (by simp only [List.getElem?_toArray, List.getElem?_cons_succ, List.getElem?_cons_zero] <;> rfl) (by rfl) (by kernel_rfl) (by kernel_rfl) (by kernel_rfl) (fun _ _ _ h => h) (by rfl) ?_ ?_
        rotate_left
        · ((intro u hu); go_simp; try with_reducible rfl)
        try simp only [Act.put, List.setIfInBounds_toArray, List.set_cons_zero, List.set_cons_succ]
        refine ways_take (i := 14) (d := some 60) (v := ?_) (by simp only [List.getElem?_toArray, List.getElem?_cons_succ, List.getElem?_cons_zero] <;> rfl) (by rfl) (by kernel_rfl) (by kernel_rfl) (by kernel_rfl) (fun _ _ _ h => h) (by rfl) ?_ ?_
        rotate_left
        · ((intro u hu); go_simp; try with_reducible rfl)
        try simp only [Act.put, List.setIfInBounds_toArray, List.set_cons_zero, List.set_cons_succ]
        refine ways_take (i := 15) (d := some 61) (v := ?_) (by simp only [List.getElem?_toArray, List.getElem?_cons_succ, List.getElem?_cons_zero] <;> rfl) (by rfl) (by kernel_rfl) (by kernel_rfl) (by kernel_rfl) (fun _ _ _ h => h) (by rfl) ?_ ?_
        rotate_left
        · ((intro u hu); go_simp; try with_reducible rfl)
        try simp only [Act.put, List.setIfInBounds_toArray, List.set_cons_zero, List.set_cons_succ]
        refine ways_take (i := 16) (d := some 62) (v := ?_) (by simp only [List.getElem?_toArray, List.getElem?_cons_succ, List.getElem?_cons_zero] <;> rfl) (by rfl) (by kernel_rfl) (by kernel_rfl) (by kernel_rfl) (fun _ _ _ h => h) (by rfl) ?_ ?_
        rotate_left
        · ((intro u hu); go_simp; try with_reducible rfl)
        try simp only [Act.put, List.setIfInBounds_toArray, List.set_cons_zero, List.set_cons_succ]
        refine ways_take (i := 17) (d := some 63) (v := ?_) (by simp only [List.getElem?_toArray, List.getElem?_cons_succ, List.getElem?_cons_zero] <;> rfl) (by rfl) (by kernel_rfl) (by kernel_rfl) (by kernel_rfl) (fun _ _ _ h => h) (by rfl) ?_ ?_
        rotate_left
        · ((intro u hu); go_simp; try with_reducible rfl)
        try simp only [Act.put, List.setIfInBounds_toArray, List.set_cons_zero, List.set_cons_succ]
        refine ways_skip (i := 18) (d := some 64) (by simp only [List.getElem?_toArray, List.getElem?_cons_succ, List.getElem?_cons_zero] <;> rfl) (by rfl) (by kernel_rfl) (by kernel_rfl) (by kernel_rfl) (fun _ _ _ h => h) (by rfl) ?_
        try simp only [Act.put, List.setIfInBounds_toArray, List.set_cons_zero, List.set_cons_succ]
        refine ways_skip (i := 19) (d := some 65) (by simp only [List.getElem?_toArray, List.getElem?_cons_succ, List.getElem?_cons_zero] <;> rfl) (by rfl) (by kernel_rfl) (by kernel_rfl) (by kernel_rfl) (fun _ _ _ h => h) (by rfl) ?_
        try simp only [Act.put, List.setIfInBounds_toArray, List.set_cons_zero, List.set_cons_succ]
        refine ways_skip (i := 20) (d := some 66) (by simp only [List.getElem?_toArray, List.getElem?_cons_succ, List.getElem?_cons_zero] <;> rfl) (by rfl) (by kernel_rfl) (by kernel_rfl) (by kernel_rfl) (fun _ _ _ h => h) (by rfl) ?_
        try simp only [Act.put, List.setIfInBounds_toArray, List.set_cons_zero, List.set_cons_succ]
        refine ways_take (i := 21) (d := some 67) (v := ?_) (by simp only [List.getElem?_toArray, List.getElem?_cons_succ, List.getElem?_cons_zero] <;> rfl) (by rfl) (by kernel_rfl) (by kernel_rfl) (by kernel_rfl) (fun _ _ _ h => h) (by rfl) ?_ ?_
        rotate_left
        · ((intro u hu); go_simp; try with_reducible rfl)
        try simp only [Act.put, List.setIfInBounds_toArray, List.set_cons_zero, List.set_cons_succ]
        refine ways_take (i := 22) (d := some 68) (v := ?_) (by simp only [List.getElem?_toArray, List.getElem?_cons_succ, List.getElem?_cons_zero] <;> rfl) (by rfl) (by kernel_rfl) (by kernel_rfl) (by kernel_rfl) (fun _ _ _ h => h) (by rfl) ?_ ?_
        rotate_left
        · ((intro u hu); go_simp; try with_reducible rfl)
        try simp only [Act.put, List.setIfInBounds_toArray, List.set_cons_zero, List.set_cons_succ]
        refine ways_done (by kernel_rfl) (fun u hu => ?_) _
        replace hB := gb_trans hB hu
        clear hu
        have hH4 := hH2.below (gbToB hB)
        clear hB
        go_wp2_with fail
        go_meet
        exact ⟨rfl, hH4⟩
      · obtain ⟨rfl, rfl, rfl, rfl⟩ := HV1.out (by rw [← HF'.out]; exact hF0)
        have b0 : (F == 0) = false := by simp [hF0]
        have b1 : (F != 0) = true := by simp [hF0]
        clear hF0 HV HV0 HV1
        go_quiet (fail)
        all_goals (go_wp2_with fail; go_meet; exact ⟨rfl, hH2.drewN⟩)
    case rest =>
      obtain ⟨rfl, hH3⟩ := hcut
      clear hH2 c0 c1 c2 c3 q0 q1 q2 q3
      obtain ⟨q0, q1, q2, q3, _⟩ := hH3.blq.four
      have hU : (0 ≤ ph ∧ ph < 18446744073709551616) ∧ (0 ≤ pl ∧ pl < 18446744073709551616) := by
        by_cases hF0 : viaF k s hi lo n = 0
        · obtain ⟨⟨rfl, rfl, rfl, rfl⟩, hk1', hk2', hsf, hpf⟩ := HV0.out hF0
          rw [hsf] at hpf
          have hp := pfF_zero hpf
          have hlo := (adF_four hp.1).2
          refine ⟨by decide, by omega⟩
        · obtain ⟨rfl, rfl, rfl, rfl⟩ := HV1.out hF0
          exact ⟨by decide, by decide⟩
      obtain ⟨⟨u1, u2⟩, u3, u4⟩ := hU
      have hQ0 := Blk.new wc [.bool ps, .int .u64 ph, .int .u64 pl, .int .i64 pn] 42
      have hS0 := hH3.str.alloc (.cells #[.bool ps, .int .u64 ph, .int .u64 pl, .int .i64 pn] 42)
      have hX0 := hH3.base.alloc hH3.base.size (.cells #[.bool ps, .int .u64 ph, .int .u64 pl, .int .i64 pn] 42)
      have hlt : w.heap.size < wc.heap.size := hH3.str.lt
      go_upto_region 8 with fail
      generalize wc.heap.size = q9 at hQ0 hlt ⊢
      go_cut [75] (fun s75 wx => ∃ t, s75 = .bool t ∧ Str wx w.heap.size 983 ∧ Blk wx q9 [.bool ps, .int .u64 ph, .int .u64 pl, .int .i64 pn] 42 ∧ Below w.heap.size w wx)
      case first =>
        go_wp2_with fail
        refine (flip_any _ _ _ 983 (by omega) (by omega) hS0).mono ?_
        rintro e w4 ⟨r, rfl, hs4, hg4⟩
        have hQ4 := hQ0.gb hg4 hlt
        have hX4 : Below w.heap.size w w4 := hX0.trans (gb_toBelow hg4 (Nat.le_refl _) (by have := hS0.lt; omega))
        cases r <;> (go_wp2_with fail; go_meet; exact ⟨_, rfl, hs4, hQ4, hX4⟩)
      case rest =>
        obtain ⟨t75, rfl, hS1, hQ1, hX1⟩ := hcut
        clear hQ0 hS0 hX0 hH3 HV HV0 HV1 q0 q1 q2 q3
        have hlt' : w.heap.size < q9 := hlt
        go_upto_if 75 with fail
        go_cut [] (fun wx => ∃ qs qh ql qn, (0 ≤ qh ∧ qh < 18446744073709551616) ∧ (0 ≤ ql ∧ ql < 18446744073709551616) ∧ Str wx w.heap.size 900 ∧ Blk wx q9 [.bool qs, .int .u64 qh, .int .u64 ql, .int .i64 qn] 42 ∧ Below w.heap.size w wx)
        case first =>
          obtain ⟨c0, c1, c2, c3, _⟩ := hQ1.four
          cases t75
          · go_wp2_with fail
            refine (flip_any _ _ _ 982 (by omega) (by omega) hS1).mono ?_
            rintro e w5 ⟨r, rfl, hs5, hg5⟩
            have hQ5 := hQ1.gb hg5 hlt
            have hX5 : Below w.heap.size w w5 := hX1.trans (gb_toBelow hg5 (Nat.le_refl _) (by have := hS1.lt; omega))
            obtain ⟨d0, d1, d2, d3, _⟩ := hQ5.four
            cases r
            · go_wp2_with fail
              go_meet
              exact ⟨ps, ph, pl, pn, ⟨u1, u2⟩, ⟨u3, u4⟩, hs5.le (by omega), hQ5, hX5⟩
            · go_wp2_with fail
              go_meet
              exact ⟨ps, ph, _, pn, ⟨u1, u2⟩, xor48 pl u3 u4, (hs5.setCell (p := ⟨q9, 2, none⟩) hlt _).le (by omega), hQ5.set 2 _, hX5.setCell (p := ⟨q9, 2, none⟩) (Nat.le_of_lt hlt) _⟩
          · go_wp2_with fail
            refine (prefix_any _ _ 969 hS1).mono ?_
            rintro e w5 ⟨qs, qh, ql, qn, ⟨⟨v1, v2⟩, ⟨v3, v4⟩, vn1, vn2⟩, rfl, hs5, hg5⟩
            have hQ5 := hQ1.gb hg5 hlt
            have hX5 : Below w.heap.size w w5 := hX1.trans (gb_toBelow hg5 (Nat.le_refl _) (by have := hS1.lt; omega))
            obtain ⟨d0, d1, d2, d3, _⟩ := hQ5.four
            go_wp2_with fail
            go_meet
            exact ⟨qs, qh, ql, qn, ⟨v1, v2⟩, ⟨v3, v4⟩, ((((hs5.setCell (p := ⟨q9, 0, none⟩) hlt _).setCell (p := ⟨q9, 1, none⟩) hlt _).setCell (p := ⟨q9, 2, none⟩) hlt _).setCell (p := ⟨q9, 3, none⟩) hlt _).le (by omega), (((hQ5.set 0 _).set 1 _).set 2 _).set 3 _,
              (((hX5.setCell (p := ⟨q9, 0, none⟩) (Nat.le_of_lt hlt) _).setCell (p := ⟨q9, 1, none⟩) (Nat.le_of_lt hlt) _).setCell (p := ⟨q9, 2, none⟩) (Nat.le_of_lt hlt) _).setCell (p := ⟨q9, 3, none⟩) (Nat.le_of_lt hlt) _⟩
        case rest =>
          obtain ⟨qs, qh, ql, qn, ⟨v1, v2⟩, ⟨v3, v4⟩, hS2, hQ2, hX2⟩ := hcut
          clear hS1 hQ1 hX1 u1 u2 u3 u4
          obtain ⟨c0, c1, c2, c3, _⟩ := hQ2.four
          obtain ⟨kk, E, bs, bh, bl, bn, HS, HS1, HS2⟩ := site_both qs qh ql qn v1 v2 v3 v4
          have HT1 := Lib.hid HS1
          have HT2 := Lib.hid HS2
          clear HS1 HS2
          go_wp2_with fail
          refine (HS _).out.mono ?_
          rintro e w5 ⟨rfl, hb5⟩
          have hS5 := hS2.below hb5
          have hQ5 := hQ2.below hb5
          have hX5 := hX2.trans (hb5.mono hX2.size)
          clear hS2 hQ2 hX2 c0 c1 c2 c3
          obtain ⟨c0, c1, c2, c3, _⟩ := (hQ5.alloc (.cells #[.bool bs, .int .u64 bh, .int .u64 bl, .int .i64 bn] 42)).four
          go_wp2_with fail
          refine (prefixFault_any qs qh ql qn _ v1 v2 v3 v4).mono ?_
          rintro e w6 ⟨rfl, hb6⟩
          have HB6 := (Blk.new w5 [.bool bs, .int .u64 bh, .int .u64 bl, .int .i64 bn] 42).below hb6
          have hQ6 := (hQ5.alloc (.cells #[.bool bs, .int .u64 bh, .int .u64 bl, .int .i64 bn] 42)).below hb6
          have hX6 := (hX5.alloc hX5.size (.cells #[.bool bs, .int .u64 bh, .int .u64 bl, .int .i64 bn] 42)).trans (hb6.mono (by have := hX5.size; simp; omega))
          have hz6 := hX6.size
          have hZ6 := Blk.new w6 [.bool false, .int .u64 0, .int .u64 0, .int .i64 0] 42
          have hY6 := hX6.alloc hX6.size (.cells #[.bool false, .int .u64 0, .int .u64 0, .int .i64 0] 42)
          have hB6 := HB6.alloc (.cells #[.bool false, .int .u64 0, .int .u64 0, .int .i64 0] 42)
          have hR6 := hQ6.alloc (.cells #[.bool false, .int .u64 0, .int .u64 0, .int .i64 0] 42)
          have l14 := HB6.lt
          have l9 := hQ6.lt
          clear hS5 hQ5 hX5 hb6 c0 c1 c2 c3 HB6 hQ6 hX6
          generalize pfF qs qh ql qn = f at HT1 HT2 ⊢
          generalize w5.heap.size = q11 at hB6 l14 ⊢
          go_upto_if 96 with fail
          generalize w6.heap.size = q14 at hZ6 hz6 l14 l9 ⊢
          go_cut [8, 13] (fun s8 s13 wx => s8 = .int .i64 E ∧ s13 = .int .i64 kk ∧ Blk wx q11 [.bool bs, .int .u64 bh, .int .u64 bl, .int .i64 bn] 42 ∧ Blk wx q14 [.bool bs, .int .u64 bh, .int .u64 bl, .int .i64 bn] 42 ∧ Below w.heap.size w wx)
          case first =>
            by_cases hf0 : f = 0
            · subst hf0
              obtain ⟨ok, HO, hE⟩ := HT2.out rfl
              subst hE
              clear HT1 HT2
              obtain ⟨c0, c1, c2, c3, _⟩ := hR6.four
              go_wp2_with fail
              refine (HO _).out.mono ?_
              rintro e w7 ⟨rfl, hb7⟩
              have hB7 := (hB6.below hb7).alloc (.cells #[.bool bs, .int .u64 bh, .int .u64 bl, .int .i64 bn] 42)
              have hZ7 := (hZ6.below hb7).alloc (.cells #[.bool bs, .int .u64 bh, .int .u64 bl, .int .i64 bn] 42)
              have hY7' := hY6.trans (hb7.mono hY6.size)
              have hY7 := hY7'.alloc hY7'.size (.cells #[.bool bs, .int .u64 bh, .int .u64 bl, .int .i64 bn] 42)
              have hN7 := Blk.new w7 [.bool bs, .int .u64 bh, .int .u64 bl, .int .i64 bn] 42
              have l16 := (hZ6.below hb7).lt
              clear hb7 hB6 hZ6 hY6 hY7' hR6 c0 c1 c2 c3
              obtain ⟨e0, e1, e2, e3, _⟩ := hN7.four
              obtain ⟨_, _, _, _, g0, g1, g2, g3⟩ := hZ7.four
              go_upto_region 17 with fail
              generalize w7.heap.size = q16 at hN7 l16 e0 e1 e2 e3 ⊢
              go_region_with (go_at_call 27; refine (when_any _ _ _).mono ?_; rintro e w8 ⟨rfl, rfl⟩)
              all_goals (go_wp2_with fail; go_meet)
              all_goals exact ⟨rfl, rfl, ((((hB7.other (a := ⟨q14, 0, none⟩) (Nat.ne_of_lt l14) _).other (a := ⟨q14, 1, none⟩) (Nat.ne_of_lt l14) _).other (a := ⟨q14, 2, none⟩) (Nat.ne_of_lt l14) _).other (a := ⟨q14, 3, none⟩) (Nat.ne_of_lt l14) _).drew,
                ((((hZ7.set 0 _).set 1 _).set 2 _).set 3 _).drew, ((((hY7.setCell (p := ⟨q14, 0, none⟩) hz6 _).setCell (p := ⟨q14, 1, none⟩) hz6 _).setCell (p := ⟨q14, 2, none⟩) hz6 _).setCell (p := ⟨q14, 3, none⟩) hz6 _).drew⟩
            · obtain ⟨rfl, rfl, rfl, rfl, rfl, rfl⟩ := HT1.out hf0
              have b0 : (E == 0) = false := by simp [hf0]
              clear HT1 HT2 hf0
              go_wp2_with fail
              go_meet
              exact ⟨rfl, rfl, hB6, hZ6, hY6⟩
          case rest =>
            obtain ⟨rfl, rfl, hB9, hZ9, hX9⟩ := hcut
            clear hB6 hZ6 hY6 HT1 HT2
            obtain ⟨c0, c1, c2, c3, _⟩ := hB9.four
            obtain ⟨d0, d1, d2, d3, _⟩ := hZ9.four
            go_wp2_with fail
            refine (addressed_any _).mono ?_
            rintro e w10 ⟨rfl, hb10⟩
            go_wp2_with fail
            go_ret
            exact ⟨rfl, hX9.trans (hb10.mono hX9.size)⟩
end Go.Proofs.YtlnflihnmdpilaaDoor
