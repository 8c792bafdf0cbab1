/- AddrTexts: CheckAddr, Compare and Text are as specified for all addresses. -/
import Derived.Test.YtlnflihnmdpilaaDoorTxtH
import Derived.Test.YtlnflihnmdpilaaDoorTxtI
import Derived.Test.YtlnflihnmdpilaaDoorTxtJ
import Derived.Test.YtlnflihnmdpilaaDoorTxtK
import Derived.Test.YtlnflihnmdpilaaDoorFrame
import Derived.Lib.LaidTab
import Derived.LaidSub
namespace Go.Proofs.YtlnflihnmdpilaaDoor
open Go.RowKit

theorem addrTextR_any (s : Bool) (hi lo : Int) (w : World) (htab : Tabs w) (h1 : 0 ≤ hi) (h2 : hi < 18446744073709551616) (h3 : 0 ≤ lo) (h4 : lo < 18446744073709551616) (hF : adF s hi lo = 0) :
    Calls Tryd.prog 11 #[.agg #[.bool s, .int .u64 hi, .int .u64 lo]] w (GivesV (sv (adrText s hi lo)) w) := by
  unfold adrText
  rw [if_pos hF]
  cases s
  · have hz : hi = 0 ∧ lo < 4294967296 := by
      unfold adF at hF
      split at hF
      · cases hF
      · rename_i hn
        constructor
        · exact Classical.byContradiction fun h => hn ⟨rfl, .inl h⟩
        · exact Classical.byContradiction fun h => hn ⟨rfl, .inr (by omega)⟩
    obtain ⟨rfl, hl⟩ := hz
    rw [if_neg (by decide)]
    exact addrTextR_four lo w htab h3 hl
  · rw [if_pos rfl]
    exact addrTextR_six hi lo w htab h1 h2 h3 h4

set_option linter.unusedVariables false in
set_option linter.unusedSimpArgs false in
set_option maxHeartbeats 8000000 in
set_option maxRecDepth 100000 in
theorem addrTexts_walk (a : Option Addr) (len cap : Nat) (w : World) (htab : Tabs w) (hs : Str (w.alloc (.cells #[.slice a len cap, .int .i64 0] 25)) w.heap.size 1000) :
    Calls Tryd.prog 3 #[.slice a len cap] w fun e w' => e = .returned (.bool true) ∧ Below w.heap.size w w' := by
  have hB0 : Below w.heap.size w (w.alloc (.cells #[.slice a len cap, .int .i64 0] 25)) := (Below.refl _ _).alloc (Nat.le_refl _) _
  have hb4 := htab.2.2
  have ht0 := htab.below hB0
  clear htab
  go_enter Tryd.func3, Tryd.ntmps3
  go_wp2_with fail
  refine (raw_any _ _ 994 hs).mono ?_
  rintro e w1 ⟨s, hi, lo, ⟨⟨h1, h2⟩, ⟨h3, h4⟩⟩, rfl, hs1, hg1⟩
  have hC1 : Below w.heap.size w w1 := hB0.trans (gb_toBelow hg1 (Nat.le_refl _) (by simp))
  have ht1 := ht0.grown hg1 hb4
  clear hs hB0 hg1 ht0
  go_wp2_with fail
  refine (raw_any _ _ 988 hs1).mono ?_
  rintro e w2 ⟨t, h, l, ⟨⟨k1, k2⟩, ⟨k3, k4⟩⟩, rfl, hs2, hg2⟩
  have hC2 : Below w.heap.size w w2 := hC1.trans (gb_toBelow hg2 (Nat.le_refl _) (by have := hs1.lt; omega))
  have ht2 := ht1.grown hg2 hb4
  clear hs1 hC1 hg2 ht1
  have hX := blk2 w2 [.bool s, .int .u64 hi, .int .u64 lo] [.bool t, .int .u64 h, .int .u64 l] 28 28
  have hlt : w.heap.size < w2.heap.size := hs2.lt
  have hP : AT w w.heap.size 988 w2.heap.size (w2.heap.size + 1) [.bool s, .int .u64 hi, .int .u64 lo] [.bool t, .int .u64 h, .int .u64 l] ((w2.alloc (.cells #[.bool s, .int .u64 hi, .int .u64 lo] 28)).alloc (.cells #[.bool t, .int .u64 h, .int .u64 l] 28)) :=
    ⟨(hs2.alloc _).alloc _, hX.1, hX.2, (ht2.alloc _).alloc _, (hC2.alloc hC2.size _).alloc (by have := hC2.size; simp; omega) _, hb4, hlt, by omega, Nat.le_refl _, by omega⟩
  clear hX hs2 hC2 ht2
  go_wp2_with fail
  refine (flip_any _ _ _ 987 (by omega) (by omega) hP.str).mono ?_
  rintro e w3 ⟨r, rfl, hs3, hg3⟩
  replace hP := hP.step hs3 hg3
  clear hs3 hg3
  generalize w2.heap.size = pa at hP ⊢
  generalize hpb : pa + 1 = pb at hP ⊢
  clear hpb hlt
  go_upto_if 18 with fail
  go_cut [] (fun wx => AnyAT w w.heap.size pa pb [.bool t, .int .u64 h, .int .u64 l] wx)
  case first => as_aux_lemma =>
    cases r
    · go_wp2_with fail
      go_meet
      exact ⟨s, hi, lo, _, ⟨h1, h2⟩, ⟨h3, h4⟩, hP⟩
    · obtain ⟨c0, c1, c2, f0, f1, f2⟩ := hP.ba.three
      go_wp2_with fail
      go_loopw [20] (fun i wr => ∃ k : Nat, k ≤ 4 ∧ i = .int .i64 k ∧ SixAT w w.heap.size (908 - 2 * k) pa pb [.bool t, .int .u64 h, .int .u64 l] wr) (fun i _ => 4 - (intOf i).toNat)
      case atStart => exact ⟨0, by omega, rfl, 0, 0, ⟨by omega, by omega⟩, ⟨by omega, by omega⟩, (((hP.set 0 _).set 1 _).set 2 _).le (by omega)⟩
      case round =>
        obtain ⟨k, hk, rfl, xh, xl, hxh, hxl, hQ⟩ := hrel
        clear hP c0 c1 c2 f0 f1 f2
        by_cases hlt : k < 4
        · go_wp2_with fail
          refine wx_begin (some w.heap.size) [17, 19] (by kernel_rfl) (fun u0 hb0' hz0' => ?_)
          replace hQ := hQ.below hb0'
          clear hb0' hz0'
          refine wx_pure (i := 0) (d := some 22) (v := ?_) (by simp only [List.getElem?_toArray, List.getElem?_cons_succ, List.getElem?_cons_zero] <;> rfl) (by rfl) (by kernel_rfl) (by kernel_rfl) (by kernel_rfl) (fun _ _ _ h => h) (by rfl) ?_ ?_
          rotate_left
          · ((intro u); go_simp; try with_reducible rfl)
          try simp only [Act.put, List.setIfInBounds_toArray, List.set_cons_zero, List.set_cons_succ]
          refine wx_take (i := 1) (d := some 23) (v := ?_) (by simp only [List.getElem?_toArray, List.getElem?_cons_succ, List.getElem?_cons_zero] <;> rfl) (by rfl) (by kernel_rfl) (by kernel_rfl) (by kernel_rfl) (fun _ _ _ h => h) (by rfl) (by kernel_rfl) ?_ ?_
          rotate_left
          · ((intro u hu); obtain ⟨c0, c1, c2, _⟩ := (hQ.ba.gb hu hQ.lt.2.1).three; go_simp; try with_reducible rfl)
          try simp only [Act.put, List.setIfInBounds_toArray, List.set_cons_zero, List.set_cons_succ]
          refine wx_pure (i := 2) (d := some 24) (v := ?_) (by simp only [List.getElem?_toArray, List.getElem?_cons_succ, List.getElem?_cons_zero] <;> rfl) (by rfl) (by kernel_rfl) (by kernel_rfl) (by kernel_rfl) (fun _ _ _ h => h) (by rfl) ?_ ?_
          rotate_left
          · ((intro u); go_simp; try with_reducible rfl)
          try simp only [Act.put, List.setIfInBounds_toArray, List.set_cons_zero, List.set_cons_succ]
          refine wx_pure (i := 3) (d := some 25) (v := ?_) (by simp only [List.getElem?_toArray, List.getElem?_cons_succ, List.getElem?_cons_zero] <;> rfl) (by rfl) (by kernel_rfl) (by kernel_rfl) (by kernel_rfl) (fun _ _ _ h => h) (by rfl) ?_ ?_
          rotate_left
          · ((intro u); go_simp; try with_reducible rfl)
          try simp only [Act.put, List.setIfInBounds_toArray, List.set_cons_zero, List.set_cons_succ]
          refine wx_pure (i := 8) (d := some 30) (v := ?_) (by simp only [List.getElem?_toArray, List.getElem?_cons_succ, List.getElem?_cons_zero] <;> rfl) (by rfl) (by kernel_rfl) (by kernel_rfl) (by kernel_rfl) (fun _ _ _ h => h) (by rfl) ?_ ?_
          rotate_left
          · ((intro u); go_simp; try with_reducible rfl)
          try simp only [Act.put, List.setIfInBounds_toArray, List.set_cons_zero, List.set_cons_succ]
          refine wx_take (i := 9) (d := some 31) (v := ?_) (by simp only [List.getElem?_toArray, List.getElem?_cons_succ, List.getElem?_cons_zero] <;> rfl) (by rfl) (by kernel_rfl) (by kernel_rfl) (by kernel_rfl) (fun _ _ _ h => h) (by rfl) (by kernel_rfl) ?_ ?_
          rotate_left
          · ((intro u hu); obtain ⟨c0, c1, c2, _⟩ := (hQ.ba.gb hu hQ.lt.2.1).three; go_simp; try with_reducible rfl)
          try simp only [Act.put, List.setIfInBounds_toArray, List.set_cons_zero, List.set_cons_succ]
          refine wx_pure (i := 10) (d := some 32) (v := ?_) (by simp only [List.getElem?_toArray, List.getElem?_cons_succ, List.getElem?_cons_zero] <;> rfl) (by rfl) (by kernel_rfl) (by kernel_rfl) (by kernel_rfl) (fun _ _ _ h => h) (by rfl) ?_ ?_
          rotate_left
          · ((intro u); go_simp; try with_reducible rfl)
          try simp only [Act.put, List.setIfInBounds_toArray, List.set_cons_zero, List.set_cons_succ]
          refine wx_pure (i := 11) (d := some 33) (v := ?_) (by simp only [List.getElem?_toArray, List.getElem?_cons_succ, List.getElem?_cons_zero] <;> rfl) (by rfl) (by kernel_rfl) (by kernel_rfl) (by kernel_rfl) (fun _ _ _ h => h) (by rfl) ?_ ?_
          rotate_left
          · ((intro u); go_simp; try with_reducible rfl)
          try simp only [Act.put, List.setIfInBounds_toArray, List.set_cons_zero, List.set_cons_succ]
          refine wx_two (i := 4) (k := 12) (by simp only [List.getElem?_toArray, List.getElem?_cons_succ, List.getElem?_cons_zero] <;> rfl) (by simp only [List.getElem?_toArray, List.getElem?_cons_succ, List.getElem?_cons_zero] <;> rfl) (by kernel_rfl) (by rfl) (by rfl) (fun K hK => ?_) (fun K hK => ?_)
          · go_simp
            refine hK.out _ _ (World.grownBy_alloc _ _ _) ?_
            have l4 := hQ.str.lt
            refine wx_new (cs := [.int .i64 0, .int .i64 0, .int .i64 1, .int .i64 2748]) (t := 3) (fun u4 hb4 hL4 hz4 => ?_)
            replace hQ := hQ.below hb4
            try (replace hL12 := hL12.below hb4)
            clear hK K hb4 hz4
            try simp only [Act.put, List.setIfInBounds_toArray, List.set_cons_zero, List.set_cons_succ]
            refine wx_two (i := 5) (k := 12) (by simp only [List.getElem?_toArray, List.getElem?_cons_succ, List.getElem?_cons_zero] <;> rfl) (by simp only [List.getElem?_toArray, List.getElem?_cons_succ, List.getElem?_cons_zero] <;> rfl) (by kernel_rfl) (by rfl) (by rfl) (fun K hK => ?_) (fun K hK => ?_)
            · go_simp
              refine (pick_blk _ _ _ _ _ [0, 0, 1, 2748] _ (hQ.str.le (R' := 907 - 2 * k + 1) (by omega)) l4 hL4 (by simp) (by simp) (fun r => 0 ≤ r ∧ r < 65536) (by simp)).mono ?_
              rintro e u5 ⟨r5, ⟨p5, q5⟩, rfl, hs5, hg5⟩
              refine hK.out _ _ hg5 ?_
              replace hQ := hQ.step hs5 hg5
              try (replace hL12 := hL12.gb hg5 l12)
              clear hK K hg5 hs5 hL4
              try simp only [Act.put, List.setIfInBounds_toArray, List.set_cons_zero, List.set_cons_succ]
              refine wx_pure (i := 6) (d := some 28) (v := ?_) (by simp only [List.getElem?_toArray, List.getElem?_cons_succ, List.getElem?_cons_zero] <;> rfl) (by rfl) (by kernel_rfl) (by kernel_rfl) (by kernel_rfl) (fun _ _ _ h => h) (by rfl) ?_ ?_
              rotate_left
              · ((intro u); go_simp; try with_reducible rfl)
              try simp only [Act.put, List.setIfInBounds_toArray, List.set_cons_zero, List.set_cons_succ]
              refine wx_pure (i := 7) (d := some 29) (v := ?_) (by simp only [List.getElem?_toArray, List.getElem?_cons_succ, List.getElem?_cons_zero] <;> rfl) (by rfl) (by kernel_rfl) (by kernel_rfl) (by kernel_rfl) (fun _ _ _ h => h) (by rfl) ?_ ?_
              rotate_left
              · ((intro u); go_simp; try with_reducible rfl)
              try simp only [Act.put, List.setIfInBounds_toArray, List.set_cons_zero, List.set_cons_succ]
              refine wx_pure (i := 16) (d := some 38) (v := ?_) (by simp only [List.getElem?_toArray, List.getElem?_cons_succ, List.getElem?_cons_zero] <;> rfl) (by rfl) (by kernel_rfl) (by kernel_rfl) (by kernel_rfl) (fun _ _ _ h => h) (by rfl) ?_ ?_
              rotate_left
              · ((intro u); go_simp; try with_reducible rfl)
              try simp only [Act.put, List.setIfInBounds_toArray, List.set_cons_zero, List.set_cons_succ]
              refine wx_one (i := 12) (by simp only [List.getElem?_toArray, List.getElem?_cons_succ, List.getElem?_cons_zero] <;> rfl) (by kernel_rfl) (by rfl) (fun K hK => ?_)
              go_simp
              refine hK.out _ _ (World.grownBy_alloc _ _ _) ?_
              have l12 := hQ.str.lt
              refine wx_new (cs := [.int .i64 0, .int .i64 0, .int .i64 0, .int .i64 65535]) (t := 3) (fun u12 hb12 hL12 hz12 => ?_)
              replace hQ := hQ.below hb12
              try (replace hL4 := hL4.below hb12)
              clear hK K hb12 hz12
              try simp only [Act.put, List.setIfInBounds_toArray, List.set_cons_zero, List.set_cons_succ]
              refine wx_one (i := 13) (by simp only [List.getElem?_toArray, List.getElem?_cons_succ, List.getElem?_cons_zero] <;> rfl) (by kernel_rfl) (by rfl) (fun K hK => ?_)
              go_simp
              refine (pick_blk _ _ _ _ _ [0, 0, 0, 65535] _ (hQ.str.le (R' := 906 - 2 * k + 1) (by omega)) l12 hL12 (by simp) (by simp) (fun r => 0 ≤ r ∧ r < 65536) (by simp)).mono ?_
              rintro e u13 ⟨r13, ⟨p13, q13⟩, rfl, hs13, hg13⟩
              refine hK.out _ _ hg13 ?_
              replace hQ := hQ.step hs13 hg13
              try (replace hL12 := hL12.gb hg13 l12)
              clear hK K hg13 hs13 hL12
              obtain ⟨c0, c1, c2, f0, f1, f2⟩ := hQ.ba.three
              try simp only [Act.put, List.setIfInBounds_toArray, List.set_cons_zero, List.set_cons_succ]
              refine wx_pure (i := 14) (d := some 36) (v := ?_) (by simp only [List.getElem?_toArray, List.getElem?_cons_succ, List.getElem?_cons_zero] <;> rfl) (by rfl) (by kernel_rfl) (by kernel_rfl) (by kernel_rfl) (fun _ _ _ h => h) (by rfl) ?_ ?_
              rotate_left
              · ((intro u); go_simp; try with_reducible rfl)
              try simp only [Act.put, List.setIfInBounds_toArray, List.set_cons_zero, List.set_cons_succ]
              refine wx_pure (i := 15) (d := some 37) (v := ?_) (by simp only [List.getElem?_toArray, List.getElem?_cons_succ, List.getElem?_cons_zero] <;> rfl) (by rfl) (by kernel_rfl) (by kernel_rfl) (by kernel_rfl) (fun _ _ _ h => h) (by rfl) ?_ ?_
              rotate_left
              · ((intro u); go_simp; try with_reducible rfl)
              try simp only [Act.put, List.setIfInBounds_toArray, List.set_cons_zero, List.set_cons_succ]
              refine wx_store (i := 17) (by simp only [List.getElem?_toArray, List.getElem?_cons_succ, List.getElem?_cons_zero] <;> rfl) (by kernel_rfl) (by rfl) (by kernel_rfl) (fun K hK => ?_)
              go_simp
              refine hK.out _ _ ?_
              clear hK K
              try simp only [Act.put, List.setIfInBounds_toArray, List.set_cons_zero, List.set_cons_succ]
              refine wx_pure (i := 18) (d := some 39) (v := ?_) (by simp only [List.getElem?_toArray, List.getElem?_cons_succ, List.getElem?_cons_zero] <;> rfl) (by rfl) (by kernel_rfl) (by kernel_rfl) (by kernel_rfl) (fun _ _ _ h => h) (by rfl) ?_ ?_
              rotate_left
              · ((intro u); go_simp; try with_reducible rfl)
              try simp only [Act.put, List.setIfInBounds_toArray, List.set_cons_zero, List.set_cons_succ]
              refine wx_store (i := 19) (by simp only [List.getElem?_toArray, List.getElem?_cons_succ, List.getElem?_cons_zero] <;> rfl) (by kernel_rfl) (by rfl) (by kernel_rfl) (fun K hK => ?_)
              go_simp
              refine hK.out _ _ ?_
              clear hK K
              try simp only [Act.put, List.setIfInBounds_toArray, List.set_cons_zero, List.set_cons_succ]
              refine wx_done (by kernel_rfl) ?_ _
              go_wp2_with fail
              go_roundw
              case rel => exact ⟨k + 1, by omega, by go_num, _, _, u64_bits _ _, u64_bits _ _, ((hQ.set 1 _).set 2 _).le (by omega)⟩
              case measure => simp [intOf]; omega
            · go_simp
              refine hK.out _ _ (World.grownBy_alloc _ _ _) ?_
              have l12 := hQ.str.lt
              refine wx_new (cs := [.int .i64 0, .int .i64 0, .int .i64 0, .int .i64 65535]) (t := 3) (fun u12 hb12 hL12 hz12 => ?_)
              replace hQ := hQ.below hb12
              try (replace hL4 := hL4.below hb12)
              clear hK K hb12 hz12
              try simp only [Act.put, List.setIfInBounds_toArray, List.set_cons_zero, List.set_cons_succ]
              refine wx_one (i := 5) (by simp only [List.getElem?_toArray, List.getElem?_cons_succ, List.getElem?_cons_zero] <;> rfl) (by kernel_rfl) (by rfl) (fun K hK => ?_)
              go_simp
              refine (pick_blk _ _ _ _ _ [0, 0, 1, 2748] _ (hQ.str.le (R' := 907 - 2 * k + 1) (by omega)) l4 hL4 (by simp) (by simp) (fun r => 0 ≤ r ∧ r < 65536) (by simp)).mono ?_
              rintro e u5 ⟨r5, ⟨p5, q5⟩, rfl, hs5, hg5⟩
              refine hK.out _ _ hg5 ?_
              replace hQ := hQ.step hs5 hg5
              try (replace hL12 := hL12.gb hg5 l12)
              clear hK K hg5 hs5 hL4
              try simp only [Act.put, List.setIfInBounds_toArray, List.set_cons_zero, List.set_cons_succ]
              refine wx_pure (i := 6) (d := some 28) (v := ?_) (by simp only [List.getElem?_toArray, List.getElem?_cons_succ, List.getElem?_cons_zero] <;> rfl) (by rfl) (by kernel_rfl) (by kernel_rfl) (by kernel_rfl) (fun _ _ _ h => h) (by rfl) ?_ ?_
              rotate_left
              · ((intro u); go_simp; try with_reducible rfl)
              try simp only [Act.put, List.setIfInBounds_toArray, List.set_cons_zero, List.set_cons_succ]
              refine wx_pure (i := 7) (d := some 29) (v := ?_) (by simp only [List.getElem?_toArray, List.getElem?_cons_succ, List.getElem?_cons_zero] <;> rfl) (by rfl) (by kernel_rfl) (by kernel_rfl) (by kernel_rfl) (fun _ _ _ h => h) (by rfl) ?_ ?_
              rotate_left
              · ((intro u); go_simp; try with_reducible rfl)
              try simp only [Act.put, List.setIfInBounds_toArray, List.set_cons_zero, List.set_cons_succ]
              refine wx_pure (i := 16) (d := some 38) (v := ?_) (by simp only [List.getElem?_toArray, List.getElem?_cons_succ, List.getElem?_cons_zero] <;> rfl) (by rfl) (by kernel_rfl) (by kernel_rfl) (by kernel_rfl) (fun _ _ _ h => h) (by rfl) ?_ ?_
              rotate_left
              · ((intro u); go_simp; try with_reducible rfl)
              try simp only [Act.put, List.setIfInBounds_toArray, List.set_cons_zero, List.set_cons_succ]
              refine wx_one (i := 13) (by simp only [List.getElem?_toArray, List.getElem?_cons_succ, List.getElem?_cons_zero] <;> rfl) (by kernel_rfl) (by rfl) (fun K hK => ?_)
              go_simp
              refine (pick_blk _ _ _ _ _ [0, 0, 0, 65535] _ (hQ.str.le (R' := 906 - 2 * k + 1) (by omega)) l12 hL12 (by simp) (by simp) (fun r => 0 ≤ r ∧ r < 65536) (by simp)).mono ?_
              rintro e u13 ⟨r13, ⟨p13, q13⟩, rfl, hs13, hg13⟩
              refine hK.out _ _ hg13 ?_
              replace hQ := hQ.step hs13 hg13
              try (replace hL12 := hL12.gb hg13 l12)
              clear hK K hg13 hs13 hL12
              obtain ⟨c0, c1, c2, f0, f1, f2⟩ := hQ.ba.three
              try simp only [Act.put, List.setIfInBounds_toArray, List.set_cons_zero, List.set_cons_succ]
              refine wx_pure (i := 14) (d := some 36) (v := ?_) (by simp only [List.getElem?_toArray, List.getElem?_cons_succ, List.getElem?_cons_zero] <;> rfl) (by rfl) (by kernel_rfl) (by kernel_rfl) (by kernel_rfl) (fun _ _ _ h => h) (by rfl) ?_ ?_
              rotate_left
              · ((intro u); go_simp; try with_reducible rfl)
              try simp only [Act.put, List.setIfInBounds_toArray, List.set_cons_zero, List.set_cons_succ]
              refine wx_pure (i := 15) (d := some 37) (v := ?_) (by simp only [List.getElem?_toArray, List.getElem?_cons_succ, List.getElem?_cons_zero] <;> rfl) (by rfl) (by kernel_rfl) (by kernel_rfl) (by kernel_rfl) (fun _ _ _ h => h) (by rfl) ?_ ?_
              rotate_left
              · ((intro u); go_simp; try with_reducible rfl)
              try simp only [Act.put, List.setIfInBounds_toArray, List.set_cons_zero, List.set_cons_succ]
              refine wx_store (i := 17) (by simp only [List.getElem?_toArray, List.getElem?_cons_succ, List.getElem?_cons_zero] <;> rfl) (by kernel_rfl) (by rfl) (by kernel_rfl) (fun K hK => ?_)
              go_simp
              refine hK.out _ _ ?_
              clear hK K
              try simp only [Act.put, List.setIfInBounds_toArray, List.set_cons_zero, List.set_cons_succ]
              refine wx_pure (i := 18) (d := some 39) (v := ?_) (by simp only [List.getElem?_toArray, List.getElem?_cons_succ, List.getElem?_cons_zero] <;> rfl) (by rfl) (by kernel_rfl) (by kernel_rfl) (by kernel_rfl) (fun _ _ _ h => h) (by rfl) ?_ ?_
              rotate_left
              · ((intro u); go_simp; try with_reducible rfl)
              try simp only [Act.put, List.setIfInBounds_toArray, List.set_cons_zero, List.set_cons_succ]
              refine wx_store (i := 19) (by simp only [List.getElem?_toArray, List.getElem?_cons_succ, List.getElem?_cons_zero] <;> rfl) (by kernel_rfl) (by rfl) (by kernel_rfl) (fun K hK => ?_)
              go_simp
              refine hK.out _ _ ?_
              clear hK K
              try simp only [Act.put, List.setIfInBounds_toArray, List.set_cons_zero, List.set_cons_succ]
              refine wx_done (by kernel_rfl) ?_ _
              go_wp2_with fail
              go_roundw
              case rel => exact ⟨k + 1, by omega, by go_num, _, _, u64_bits _ _, u64_bits _ _, ((hQ.set 1 _).set 2 _).le (by omega)⟩
              case measure => simp [intOf]; omega
          · go_simp
            refine hK.out _ _ (World.grownBy_alloc _ _ _) ?_
            have l12 := hQ.str.lt
            refine wx_new (cs := [.int .i64 0, .int .i64 0, .int .i64 0, .int .i64 65535]) (t := 3) (fun u12 hb12 hL12 hz12 => ?_)
            replace hQ := hQ.below hb12
            try (replace hL4 := hL4.below hb12)
            clear hK K hb12 hz12
            try simp only [Act.put, List.setIfInBounds_toArray, List.set_cons_zero, List.set_cons_succ]
            refine wx_one (i := 4) (by simp only [List.getElem?_toArray, List.getElem?_cons_succ, List.getElem?_cons_zero] <;> rfl) (by kernel_rfl) (by rfl) (fun K hK => ?_)
            go_simp
            refine hK.out _ _ (World.grownBy_alloc _ _ _) ?_
            have l4 := hQ.str.lt
            refine wx_new (cs := [.int .i64 0, .int .i64 0, .int .i64 1, .int .i64 2748]) (t := 3) (fun u4 hb4 hL4 hz4 => ?_)
            replace hQ := hQ.below hb4
            try (replace hL12 := hL12.below hb4)
            clear hK K hb4 hz4
            try simp only [Act.put, List.setIfInBounds_toArray, List.set_cons_zero, List.set_cons_succ]
            refine wx_one (i := 5) (by simp only [List.getElem?_toArray, List.getElem?_cons_succ, List.getElem?_cons_zero] <;> rfl) (by kernel_rfl) (by rfl) (fun K hK => ?_)
            go_simp
            refine (pick_blk _ _ _ _ _ [0, 0, 1, 2748] _ (hQ.str.le (R' := 907 - 2 * k + 1) (by omega)) l4 hL4 (by simp) (by simp) (fun r => 0 ≤ r ∧ r < 65536) (by simp)).mono ?_
            rintro e u5 ⟨r5, ⟨p5, q5⟩, rfl, hs5, hg5⟩
            refine hK.out _ _ hg5 ?_
            replace hQ := hQ.step hs5 hg5
            try (replace hL12 := hL12.gb hg5 l12)
            clear hK K hg5 hs5 hL4
            try simp only [Act.put, List.setIfInBounds_toArray, List.set_cons_zero, List.set_cons_succ]
            refine wx_pure (i := 6) (d := some 28) (v := ?_) (by simp only [List.getElem?_toArray, List.getElem?_cons_succ, List.getElem?_cons_zero] <;> rfl) (by rfl) (by kernel_rfl) (by kernel_rfl) (by kernel_rfl) (fun _ _ _ h => h) (by rfl) ?_ ?_
            rotate_left
            · ((intro u); go_simp; try with_reducible rfl)
            try simp only [Act.put, List.setIfInBounds_toArray, List.set_cons_zero, List.set_cons_succ]
            refine wx_pure (i := 7) (d := some 29) (v := ?_) (by simp only [List.getElem?_toArray, List.getElem?_cons_succ, List.getElem?_cons_zero] <;> rfl) (by rfl) (by kernel_rfl) (by kernel_rfl) (by kernel_rfl) (fun _ _ _ h => h) (by rfl) ?_ ?_
            rotate_left
            · ((intro u); go_simp; try with_reducible rfl)
            try simp only [Act.put, List.setIfInBounds_toArray, List.set_cons_zero, List.set_cons_succ]
            refine wx_pure (i := 16) (d := some 38) (v := ?_) (by simp only [List.getElem?_toArray, List.getElem?_cons_succ, List.getElem?_cons_zero] <;> rfl) (by rfl) (by kernel_rfl) (by kernel_rfl) (by kernel_rfl) (fun _ _ _ h => h) (by rfl) ?_ ?_
            rotate_left
            · ((intro u); go_simp; try with_reducible rfl)
            try simp only [Act.put, List.setIfInBounds_toArray, List.set_cons_zero, List.set_cons_succ]
            refine wx_one (i := 13) (by simp only [List.getElem?_toArray, List.getElem?_cons_succ, List.getElem?_cons_zero] <;> rfl) (by kernel_rfl) (by rfl) (fun K hK => ?_)
            go_simp
            refine (pick_blk _ _ _ _ _ [0, 0, 0, 65535] _ (hQ.str.le (R' := 906 - 2 * k + 1) (by omega)) l12 hL12 (by simp) (by simp) (fun r => 0 ≤ r ∧ r < 65536) (by simp)).mono ?_
            rintro e u13 ⟨r13, ⟨p13, q13⟩, rfl, hs13, hg13⟩
            refine hK.out _ _ hg13 ?_
            replace hQ := hQ.step hs13 hg13
            try (replace hL12 := hL12.gb hg13 l12)
            clear hK K hg13 hs13 hL12
            obtain ⟨c0, c1, c2, f0, f1, f2⟩ := hQ.ba.three
            try simp only [Act.put, List.setIfInBounds_toArray, List.set_cons_zero, List.set_cons_succ]
            refine wx_pure (i := 14) (d := some 36) (v := ?_) (by simp only [List.getElem?_toArray, List.getElem?_cons_succ, List.getElem?_cons_zero] <;> rfl) (by rfl) (by kernel_rfl) (by kernel_rfl) (by kernel_rfl) (fun _ _ _ h => h) (by rfl) ?_ ?_
            rotate_left
            · ((intro u); go_simp; try with_reducible rfl)
            try simp only [Act.put, List.setIfInBounds_toArray, List.set_cons_zero, List.set_cons_succ]
            refine wx_pure (i := 15) (d := some 37) (v := ?_) (by simp only [List.getElem?_toArray, List.getElem?_cons_succ, List.getElem?_cons_zero] <;> rfl) (by rfl) (by kernel_rfl) (by kernel_rfl) (by kernel_rfl) (fun _ _ _ h => h) (by rfl) ?_ ?_
            rotate_left
            · ((intro u); go_simp; try with_reducible rfl)
            try simp only [Act.put, List.setIfInBounds_toArray, List.set_cons_zero, List.set_cons_succ]
            refine wx_store (i := 17) (by simp only [List.getElem?_toArray, List.getElem?_cons_succ, List.getElem?_cons_zero] <;> rfl) (by kernel_rfl) (by rfl) (by kernel_rfl) (fun K hK => ?_)
            go_simp
            refine hK.out _ _ ?_
            clear hK K
            try simp only [Act.put, List.setIfInBounds_toArray, List.set_cons_zero, List.set_cons_succ]
            refine wx_pure (i := 18) (d := some 39) (v := ?_) (by simp only [List.getElem?_toArray, List.getElem?_cons_succ, List.getElem?_cons_zero] <;> rfl) (by rfl) (by kernel_rfl) (by kernel_rfl) (by kernel_rfl) (fun _ _ _ h => h) (by rfl) ?_ ?_
            rotate_left
            · ((intro u); go_simp; try with_reducible rfl)
            try simp only [Act.put, List.setIfInBounds_toArray, List.set_cons_zero, List.set_cons_succ]
            refine wx_store (i := 19) (by simp only [List.getElem?_toArray, List.getElem?_cons_succ, List.getElem?_cons_zero] <;> rfl) (by kernel_rfl) (by rfl) (by kernel_rfl) (fun K hK => ?_)
            go_simp
            refine hK.out _ _ ?_
            clear hK K
            try simp only [Act.put, List.setIfInBounds_toArray, List.set_cons_zero, List.set_cons_succ]
            refine wx_done (by kernel_rfl) ?_ _
            go_wp2_with fail
            go_roundw
            case rel => exact ⟨k + 1, by omega, by go_num, _, _, u64_bits _ _, u64_bits _ _, ((hQ.set 1 _).set 2 _).le (by omega)⟩
            case measure => simp [intOf]; omega
        · obtain rfl : k = 4 := by omega
          go_wp2_with fail
          go_meet
          exact ⟨true, xh, xl, _, hxh, hxl, hQ⟩
  case rest =>
    clear hP h1 h2 h3 h4
    obtain ⟨s, hi, lo, R, ⟨h1, h2⟩, ⟨h3, h4⟩, hP⟩ := hcut
    obtain ⟨F, hF⟩ : ∃ F, F = adF s hi lo := ⟨_, rfl⟩
    obtain ⟨T, hT⟩ : ∃ T, T = adrText s hi lo := ⟨_, rfl⟩
    obtain ⟨C, hC⟩ : ∃ C, C = cmpW (num hi lo) s (num h l) t := ⟨_, rfl⟩
    have HA : ∀ w', Hid (Calls Tryd.prog 12 #[.agg #[.bool s, .int .u64 hi, .int .u64 lo]] w' (GivesV (.int .i64 F) w')) := fun w' => by rw [hF]; exact Lib.hid (checkAddr_any s hi lo w')
    have HR : ∀ w', Hid (Calls Tryd.prog 10 #[.agg #[.bool s, .int .u64 hi, .int .u64 lo]] w' (GivesV (.int .i64 F) w')) := fun w' => by rw [hF]; exact Lib.hid (addrFault_any s hi lo w' h1)
    have HX : ∀ w', Tabs w' → Hid (Calls Tryd.prog 9 #[.agg #[.bool s, .int .u64 hi, .int .u64 lo]] w' (GivesV (.tuple #[sv T, .int .i64 F]) w')) := fun w' ht => by rw [hF, hT]; exact Lib.hid (text_any s hi lo w' ht h1 h2 h3 h4)
    have HC : ∀ w', Hid (Calls Tryd.prog 13 #[.agg #[.bool s, .int .u64 hi, .int .u64 lo], .agg #[.bool t, .int .u64 h, .int .u64 l]] w' (GivesV (.int .i64 C) w')) := fun w' => by rw [hC]; exact Lib.hid (compare_any s hi lo t h l w' h1 h2 h3 h4 k1 k2 k3 k4)
    have HO : ∀ w', Hid (Calls Tryd.prog 14 #[.agg #[.bool s, .int .u64 hi, .int .u64 lo], .agg #[.bool t, .int .u64 h, .int .u64 l]] w' (GivesV (.int .i64 C) w')) := fun w' => by rw [hC]; exact Lib.hid (order_any s hi lo t h l w' h1 h2 h3 h4 k1 k2 k3 k4)
    have HT : ∀ w', Tabs w' → F = 0 → Hid (Calls Tryd.prog 11 #[.agg #[.bool s, .int .u64 hi, .int .u64 lo]] w' (GivesV (sv T) w')) := fun w' ht h0 => by rw [hT]; exact Lib.hid (addrTextR_any s hi lo w' ht h1 h2 h3 h4 (by rw [← hF]; exact h0))
    have hN : F ≠ 0 → T = [] := fun h0 => by rw [hT]; exact if_neg (by rw [← hF]; exact h0)
    clear hF hT hC
    obtain ⟨a0, a1, a2, _⟩ := hP.ba.three
    go_wp2_with fail
    refine (HX _ hP.tabs).out.mono ?_
    rintro e y1 ⟨rfl, hb1⟩
    have hQ := hP.below hb1
    clear hP hb1 a0 a1 a2 HX
    obtain ⟨a0, a1, a2, _⟩ := hQ.ba.three
    go_wp2_with fail
    refine (HR _).out.mono ?_
    rintro e y2 ⟨rfl, hb2⟩
    have hP := hQ.below hb2
    clear hQ hb2 a0 a1 a2 HR
    obtain ⟨a0, a1, a2, _⟩ := hP.ba.three
    go_upto_if 49 with fail
    go_cut [9] (fun s9 wx => s9 = sv T ∧ AT w w.heap.size R pa pb [.bool s, .int .u64 hi, .int .u64 lo] [.bool t, .int .u64 h, .int .u64 l] wx)
    case first => as_aux_lemma =>
      by_cases hF : F = 0
      · have HT1 := HT _ hP.tabs hF
        subst hF
        go_wp2_with fail
        refine HT1.out.mono ?_
        rintro e y3 ⟨rfl, hb3⟩
        go_wp2_with fail
        go_meet
        exact ⟨rfl, hP.below hb3⟩
      · have hT := Lib.hid (hN hF)
        have b0 : (F == 0) = false := by simp [hF]
        clear hF
        go_wp2_with fail
        go_meet
        exact ⟨by rw [hT.out], hP⟩
    case rest =>
      clear hP a0 a1 a2 HT hN
      obtain ⟨rfl, hQ⟩ := hcut
      go_wp2_with fail
      refine wx_begin (none) [] (by kernel_rfl) (fun u0 hb0' hz0' => ?_)
      replace hQ := hQ.below hb0'
      clear hb0' hz0'
      refine wx_take (i := 0) (d := some 52) (v := ?_) (by simp only [List.getElem?_toArray, List.getElem?_cons_succ, List.getElem?_cons_zero] <;> rfl) (by rfl) (by kernel_rfl) (by kernel_rfl) (by kernel_rfl) (fun _ _ _ h => h) (by rfl) (by kernel_rfl) ?_ ?_
      rotate_left
      · ((intro u hu); obtain ⟨⟨c0, c1, c2, _⟩, ⟨d0, d1, d2, _⟩⟩ := And.intro (hQ.ba.gn hu).three (hQ.bb.gn hu).three; go_simp; try with_reducible rfl)
      try simp only [Act.put, List.setIfInBounds_toArray, List.set_cons_zero, List.set_cons_succ]
      refine wx_pure (i := 2) (d := some 54) (v := ?_) (by simp only [List.getElem?_toArray, List.getElem?_cons_succ, List.getElem?_cons_zero] <;> rfl) (by rfl) (by kernel_rfl) (by kernel_rfl) (by kernel_rfl) (fun _ _ _ h => h) (by rfl) ?_ ?_
      rotate_left
      · ((intro u); go_simp; try with_reducible rfl)
      try simp only [Act.put, List.setIfInBounds_toArray, List.set_cons_zero, List.set_cons_succ]
      refine wx_one (i := 1) (by simp only [List.getElem?_toArray, List.getElem?_cons_succ, List.getElem?_cons_zero] <;> rfl) (by kernel_rfl) (by rfl) (fun K hK => ?_)
      go_simp
      refine ((HA _).out).mono ?_
      rintro e u1 ⟨rfl, hb1⟩
      refine hK.out _ _ (gbB hb1) ?_
      replace hQ := hQ.below hb1
      clear hK K hb1
      try simp only [Act.put, List.setIfInBounds_toArray, List.set_cons_zero, List.set_cons_succ]
      refine wx_pure (i := 3) (d := some 55) (v := ?_) (by simp only [List.getElem?_toArray, List.getElem?_cons_succ, List.getElem?_cons_zero] <;> rfl) (by rfl) (by kernel_rfl) (by kernel_rfl) (by kernel_rfl) (fun _ _ _ h => h) (by rfl) ?_ ?_
      rotate_left
      · ((intro u); go_simp; try with_reducible rfl)
      try simp only [Act.put, List.setIfInBounds_toArray, List.set_cons_zero, List.set_cons_succ]
      refine wx_pure (i := 4) (d := some 56) (v := ?_) (by simp only [List.getElem?_toArray, List.getElem?_cons_succ, List.getElem?_cons_zero] <;> rfl) (by rfl) (by kernel_rfl) (by kernel_rfl) (by kernel_rfl) (fun _ _ _ h => h) (by rfl) ?_ ?_
      rotate_left
      · ((intro u); go_simp; try with_reducible rfl)
      try simp only [Act.put, List.setIfInBounds_toArray, List.set_cons_zero, List.set_cons_succ]
      refine wx_pure (i := 5) (d := some 57) (v := ?_) (by simp only [List.getElem?_toArray, List.getElem?_cons_succ, List.getElem?_cons_zero] <;> rfl) (by rfl) (by kernel_rfl) (by kernel_rfl) (by kernel_rfl) (fun _ _ _ h => h) (by rfl) ?_ ?_
      rotate_left
      · ((intro u); go_simp; try with_reducible rfl)
      try simp only [Act.put, List.setIfInBounds_toArray, List.set_cons_zero, List.set_cons_succ]
      refine wx_pure (i := 6) (d := some 58) (v := ?_) (by simp only [List.getElem?_toArray, List.getElem?_cons_succ, List.getElem?_cons_zero] <;> rfl) (by rfl) (by kernel_rfl) (by kernel_rfl) (by kernel_rfl) (fun _ _ _ h => h) (by rfl) ?_ ?_
      rotate_left
      · ((intro u); go_simp; try with_reducible rfl)
      try simp only [Act.put, List.setIfInBounds_toArray, List.set_cons_zero, List.set_cons_succ]
      refine wx_pure (i := 7) (d := some 59) (v := ?_) (by simp only [List.getElem?_toArray, List.getElem?_cons_succ, List.getElem?_cons_zero] <;> rfl) (by rfl) (by kernel_rfl) (by kernel_rfl) (by kernel_rfl) (fun _ _ _ h => h) (by rfl) ?_ ?_
      rotate_left
      · ((intro u); go_simp; try with_reducible rfl)
      try simp only [Act.put, List.setIfInBounds_toArray, List.set_cons_zero, List.set_cons_succ]
      refine wx_pure (i := 8) (d := some 60) (v := ?_) (by simp only [List.getElem?_toArray, List.getElem?_cons_succ, List.getElem?_cons_zero] <;> rfl) (by rfl) (by kernel_rfl) (by kernel_rfl) (by kernel_rfl) (fun _ _ _ h => h) (by rfl) ?_ ?_
      rotate_left
      · ((intro u); go_simp; try with_reducible rfl)
      try simp only [Act.put, List.setIfInBounds_toArray, List.set_cons_zero, List.set_cons_succ]
      refine wx_pure (i := 9) (d := some 61) (v := ?_) (by simp only [List.getElem?_toArray, List.getElem?_cons_succ, List.getElem?_cons_zero] <;> rfl) (by rfl) (by kernel_rfl) (by kernel_rfl) (by kernel_rfl) (fun _ _ _ h => h) (by rfl) ?_ ?_
      rotate_left
      · ((intro u); go_simp; try with_reducible rfl)
      try simp only [Act.put, List.setIfInBounds_toArray, List.set_cons_zero, List.set_cons_succ]
      refine wx_pure (i := 10) (d := some 62) (v := ?_) (by simp only [List.getElem?_toArray, List.getElem?_cons_succ, List.getElem?_cons_zero] <;> rfl) (by rfl) (by kernel_rfl) (by kernel_rfl) (by kernel_rfl) (fun _ _ _ h => h) (by rfl) ?_ ?_
      rotate_left
      · ((intro u); go_simp; try with_reducible rfl)
      try simp only [Act.put, List.setIfInBounds_toArray, List.set_cons_zero, List.set_cons_succ]
      refine wx_pure (i := 11) (d := some 63) (v := ?_) (by simp only [List.getElem?_toArray, List.getElem?_cons_succ, List.getElem?_cons_zero] <;> rfl) (by rfl) (by kernel_rfl) (by kernel_rfl) (by kernel_rfl) (fun _ _ _ h => h) (by rfl) ?_ ?_
      rotate_left
      · ((intro u); go_simp; try with_reducible rfl)
      try simp only [Act.put, List.setIfInBounds_toArray, List.set_cons_zero, List.set_cons_succ]
      refine wx_pure (i := 12) (d := some 64) (v := ?_) (by simp only [List.getElem?_toArray, List.getElem?_cons_succ, List.getElem?_cons_zero] <;> rfl) (by rfl) (by kernel_rfl) (by kernel_rfl) (by kernel_rfl) (fun _ _ _ h => h) (by rfl) ?_ ?_
      rotate_left
      · ((intro u); go_simp; try with_reducible rfl)
      try simp only [Act.put, List.setIfInBounds_toArray, List.set_cons_zero, List.set_cons_succ]
      refine wx_pure (i := 13) (d := some 65) (v := ?_) (by simp only [List.getElem?_toArray, List.getElem?_cons_succ, List.getElem?_cons_zero] <;> rfl) (by rfl) (by kernel_rfl) (by kernel_rfl) (by kernel_rfl) (fun _ _ _ h => h) (by rfl) ?_ ?_
      rotate_left
      · ((intro u); go_simp; try with_reducible rfl)
      try simp only [Act.put, List.setIfInBounds_toArray, List.set_cons_zero, List.set_cons_succ]
      refine wx_pure (i := 14) (d := some 66) (v := ?_) (by simp only [List.getElem?_toArray, List.getElem?_cons_succ, List.getElem?_cons_zero] <;> rfl) (by rfl) (by kernel_rfl) (by kernel_rfl) (by kernel_rfl) (fun _ _ _ h => h) (by rfl) ?_ ?_
      rotate_left
      · ((intro u); go_simp; try with_reducible rfl)
      try simp only [Act.put, List.setIfInBounds_toArray, List.set_cons_zero, List.set_cons_succ]
      refine wx_take (i := 15) (d := some 67) (v := ?_) (by simp only [List.getElem?_toArray, List.getElem?_cons_succ, List.getElem?_cons_zero] <;> rfl) (by rfl) (by kernel_rfl) (by kernel_rfl) (by kernel_rfl) (fun _ _ _ h => h) (by rfl) (by kernel_rfl) ?_ ?_
      rotate_left
      · ((intro u hu); obtain ⟨⟨c0, c1, c2, _⟩, ⟨d0, d1, d2, _⟩⟩ := And.intro (hQ.ba.gn hu).three (hQ.bb.gn hu).three; go_simp; try with_reducible rfl)
      try simp only [Act.put, List.setIfInBounds_toArray, List.set_cons_zero, List.set_cons_succ]
      refine wx_take (i := 16) (d := some 68) (v := ?_) (by simp only [List.getElem?_toArray, List.getElem?_cons_succ, List.getElem?_cons_zero] <;> rfl) (by rfl) (by kernel_rfl) (by kernel_rfl) (by kernel_rfl) (fun _ _ _ h => h) (by rfl) (by kernel_rfl) ?_ ?_
      rotate_left
      · ((intro u hu); obtain ⟨⟨c0, c1, c2, _⟩, ⟨d0, d1, d2, _⟩⟩ := And.intro (hQ.ba.gn hu).three (hQ.bb.gn hu).three; go_simp; try with_reducible rfl)
      try simp only [Act.put, List.setIfInBounds_toArray, List.set_cons_zero, List.set_cons_succ]
      refine wx_take (i := 18) (d := some 70) (v := ?_) (by simp only [List.getElem?_toArray, List.getElem?_cons_succ, List.getElem?_cons_zero] <;> rfl) (by rfl) (by kernel_rfl) (by kernel_rfl) (by kernel_rfl) (fun _ _ _ h => h) (by rfl) (by kernel_rfl) ?_ ?_
      rotate_left
      · ((intro u hu); obtain ⟨⟨c0, c1, c2, _⟩, ⟨d0, d1, d2, _⟩⟩ := And.intro (hQ.ba.gn hu).three (hQ.bb.gn hu).three; go_simp; try with_reducible rfl)
      try simp only [Act.put, List.setIfInBounds_toArray, List.set_cons_zero, List.set_cons_succ]
      refine wx_take (i := 19) (d := some 71) (v := ?_) (by simp only [List.getElem?_toArray, List.getElem?_cons_succ, List.getElem?_cons_zero] <;> rfl) (by rfl) (by kernel_rfl) (by kernel_rfl) (by kernel_rfl) (fun _ _ _ h => h) (by rfl) (by kernel_rfl) ?_ ?_
      rotate_left
      · ((intro u hu); obtain ⟨⟨c0, c1, c2, _⟩, ⟨d0, d1, d2, _⟩⟩ := And.intro (hQ.ba.gn hu).three (hQ.bb.gn hu).three; go_simp; try with_reducible rfl)
      try simp only [Act.put, List.setIfInBounds_toArray, List.set_cons_zero, List.set_cons_succ]
      refine wx_one (i := 17) (by simp only [List.getElem?_toArray, List.getElem?_cons_succ, List.getElem?_cons_zero] <;> rfl) (by kernel_rfl) (by rfl) (fun K hK => ?_)
      go_simp
      refine ((HC _).out).mono ?_
      rintro e u17 ⟨rfl, hb17⟩
      refine hK.out _ _ (gbB hb17) ?_
      replace hQ := hQ.below hb17
      clear hK K hb17
      try simp only [Act.put, List.setIfInBounds_toArray, List.set_cons_zero, List.set_cons_succ]
      refine wx_one (i := 20) (by simp only [List.getElem?_toArray, List.getElem?_cons_succ, List.getElem?_cons_zero] <;> rfl) (by kernel_rfl) (by rfl) (fun K hK => ?_)
      go_simp
      refine ((HO _).out).mono ?_
      rintro e u20 ⟨rfl, hb20⟩
      refine hK.out _ _ (gbB hb20) ?_
      replace hQ := hQ.below hb20
      clear hK K hb20
      try simp only [Act.put, List.setIfInBounds_toArray, List.set_cons_zero, List.set_cons_succ]
      refine wx_pure (i := 21) (d := some 73) (v := ?_) (by simp only [List.getElem?_toArray, List.getElem?_cons_succ, List.getElem?_cons_zero] <;> rfl) (by rfl) (by kernel_rfl) (by kernel_rfl) (by kernel_rfl) (fun _ _ _ h => h) (by rfl) ?_ ?_
      rotate_left
      · ((intro u); go_simp; try with_reducible rfl)
      try simp only [Act.put, List.setIfInBounds_toArray, List.set_cons_zero, List.set_cons_succ]
      refine wx_pure (i := 22) (d := some 74) (v := ?_) (by simp only [List.getElem?_toArray, List.getElem?_cons_succ, List.getElem?_cons_zero] <;> rfl) (by rfl) (by kernel_rfl) (by kernel_rfl) (by kernel_rfl) (fun _ _ _ h => h) (by rfl) ?_ ?_
      rotate_left
      · ((intro u); go_simp; try with_reducible rfl)
      try simp only [Act.put, List.setIfInBounds_toArray, List.set_cons_zero, List.set_cons_succ]
      refine wx_pure (i := 23) (d := some 75) (v := ?_) (by simp only [List.getElem?_toArray, List.getElem?_cons_succ, List.getElem?_cons_zero] <;> rfl) (by rfl) (by kernel_rfl) (by kernel_rfl) (by kernel_rfl) (fun _ _ _ h => h) (by rfl) ?_ ?_
      rotate_left
      · ((intro u); go_simp; try with_reducible rfl)
      try simp only [Act.put, List.setIfInBounds_toArray, List.set_cons_zero, List.set_cons_succ]
      refine wx_one (i := 24) (by simp only [List.getElem?_toArray, List.getElem?_cons_succ, List.getElem?_cons_zero] <;> rfl) (by kernel_rfl) (by rfl) (fun K hK => ?_)
      go_simp
      refine (addressed_any _).mono ?_
      rintro e u24 ⟨rfl, hb24⟩
      refine hK.out _ _ (gbB hb24) ?_
      replace hQ := hQ.below hb24
      clear hK K hb24
      try simp only [Act.put, List.setIfInBounds_toArray, List.set_cons_zero, List.set_cons_succ]
      refine wx_pure (i := 25) (d := some 77) (v := ?_) (by simp only [List.getElem?_toArray, List.getElem?_cons_succ, List.getElem?_cons_zero] <;> rfl) (by rfl) (by kernel_rfl) (by kernel_rfl) (by kernel_rfl) (fun _ _ _ h => h) (by rfl) ?_ ?_
      rotate_left
      · ((intro u); go_simp; try with_reducible rfl)
      try simp only [Act.put, List.setIfInBounds_toArray, List.set_cons_zero, List.set_cons_succ]
      refine wx_pure (i := 26) (d := some 2) (v := ?_) (by simp only [List.getElem?_toArray, List.getElem?_cons_succ, List.getElem?_cons_zero] <;> rfl) (by rfl) (by kernel_rfl) (by kernel_rfl) (by kernel_rfl) (fun _ _ _ h => h) (by rfl) ?_ ?_
      rotate_left
      · ((intro u); go_simp; try with_reducible rfl)
      try simp only [Act.put, List.setIfInBounds_toArray, List.set_cons_zero, List.set_cons_succ]
      refine wx_done (by kernel_rfl) ?_ _
      go_wp2_with fail
      go_ret
      exact ⟨rfl, hQ.base⟩
end Go.Proofs.YtlnflihnmdpilaaDoor
