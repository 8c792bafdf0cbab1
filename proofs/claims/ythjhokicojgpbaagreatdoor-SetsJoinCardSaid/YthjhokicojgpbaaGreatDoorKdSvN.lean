/- Sets: the reference finds gaps. -/
import Derived.Test.YthjhokicojgpbaaGreatDoorKdSvM
import Derived.Test.YthjhokicojgpbaaGreatDoorKdStT
import Derived.Test.YthjhokicojgpbaaGreatDoorKdWaysB
namespace Go.Proofs.YthjhokicojgpbaaGreatDoor
open Go.RowKit
set_option linter.unusedVariables false
set_option linter.unusedSimpArgs false

/-- What is gathered ahead of each length. -/
def Stg (zs : List (Ad × Ad)) (k : Nat) (out : List (Ad × Ad)) : Prop :=
  if k = 0 then out = [] else out.Pairwise (fun x y => x.2.n + 1 < y.1.n) ∧ (∀ y ∈ out, RgR y ∧ y.2.n ≤ topN (decide (k = 2))) ∧ (∀ m, InA out m ↔ Val m ∧ m ≤ topN (decide (k = 2)) ∧ ¬ InA zs m) ∧ out.length ≤ k * (zs.length + 1)
theorem Stg.into {zs : List (Ad × Ad)} (hR : ∀ z ∈ zs, RgR z) {k : Nat} (hk : k < 2) {out : List (Ad × Ad)} (h : Stg zs k out) : GapI zs (decide (k = 1)) 0 (s2n (decide (k = 1))) false out (k * (zs.length + 1)) := by
  rcases Nat.lt_or_ge k 1 with q | q
  · have e : k = 0 := by omega
    subst e
    have e : out = [] := h
    subst e
    rw [Nat.zero_mul]
    exact GapI.start_false hR
  · have e : k = 1 := by omega
    subst e
    exact GapI.start_true hR h.1 h.2.1 h.2.2.1 h.2.2.2
theorem Stg.next {zs : List (Ad × Ad)} (hR : ∀ z ∈ zs, RgR z) (hp : zs.Pairwise (fun x y => x.2.n + 1 < y.1.n)) {k : Nat} (hk : k < 2) {a : Nat} {dn : Bool} {out : List (Ad × Ad)} (h : GapI zs (decide (k = 1)) zs.length a dn out (k * (zs.length + 1))) :
    Stg zs (k + 1) (if dn then out else out ++ [(adOf a, adOf (topN (decide (k = 1))))]) := by
  obtain ⟨out', rfl, h1, h2, h3, h4⟩ := h.ends hR hp
  have e : decide (k + 1 = 2) = decide (k = 1) := by rw [decide_eq_decide]; omega
  unfold Stg
  rw [if_neg (by omega), e]
  exact ⟨h1, h2, h3, by rw [Nat.succ_mul]; omega⟩
theorem Stg.done {zs out : List (Ad × Ad)} (h : Stg zs 2 out) : Tells out (fun m => Val m ∧ ¬ InA zs m) ∧ out.length ≤ 2 * (zs.length + 1) :=
  ⟨gaps_told h.1 h.2.1 h.2.2.1, h.2.2.2⟩

set_option maxRecDepth 100000 in
set_option maxHeartbeats 8000000 in
theorem gaps_any (A : Option Addr) (n cap : Nat) (zs : List (Ad × Ad)) (w : World) (hS : SlE eSp w A n cap zs) (hn : n ≤ 1000) (hR : ∀ x ∈ zs, RgR x) (hp : zs.Pairwise (fun x y => x.2.n + 1 < y.1.n)) :
    Calls Tryz.prog 82 #[.slice A n cap] w fun e w' => ∃ ys, Tells ys (fun m => Val m ∧ ¬ InA zs m) ∧ ys.length ≤ 2 * (n + 1) ∧ GivesL eSp w.heap.size ys e w' ∧ Below w.heap.size w w' := by
  have hnl := Lib.hid hS.1
  replace hS := Lib.hid hS
  replace hR := Lib.hid hR
  replace hp := Lib.hid hp
  have hQ := Blk.new w [.bool false, .bool true] 4
  have hbw : Below w.heap.size w (w.alloc (.cells [Value.bool false, .bool true].toArray 4)) := (Below.refl _ _).alloc (Nat.le_refl _) _
  go_enter Tryz.func82, Tryz.ntmps82
  go_wp2_with fail
  have hz0 : (w.alloc (.cells #[Value.bool false, .bool true] 4)).heap.size = w.heap.size + 1 := by simp
  generalize w.alloc (.cells #[Value.bool false, .bool true] 4) = w1 at *
  replace hz0 := Lib.hid hz0
  go_loopw [3, 14] (fun v3 v14 wr => ∃ (k : Nat) (out : List (Ad × Ad)), k ≤ 2 ∧ v14 = .int .i64 k ∧ Hid (Stg zs k out) ∧ OwnE eSp 103 (w.heap.size + 1) wr v3 out ∧ Below w.heap.size w wr ∧ Below w1.heap.size w1 wr) (fun _ v14 _ => 2 - (intOf v14).toNat)
  case atStart => exact ⟨0, [], by omega, rfl, Lib.hid rfl, OwnE.nil _ _, hbw, Below.refl _ _⟩
  case round =>
    clear hbw
    obtain ⟨k, out, hk, rfl, hI, hown, hbw, hb1⟩ := hrel
    by_cases hlt : k < 2
    · obtain ⟨s, hs⟩ : ∃ s, s = decide (k = 1) := ⟨_, rfl⟩
      have hQ' := Blk.below hQ hb1
      have hcell : wr.cell? ⟨w.heap.size, k, none⟩ = some (.bool s) := by
        rcases Nat.lt_or_ge k 1 with q | q
        · have e : k = 0 := by omega
          subst e; rw [hs]; exact hQ'.cell rfl
        · have e : k = 1 := by omega
          subst e; rw [hs]; exact hQ'.cell rfl
      have hlt' : (k : Int) < 2 := by omega
      have hG := Lib.hid (hI.out.into hR.out hlt)
      have hnx := Lib.hid (fun a dn out' (h : GapI zs (decide (k = 1)) zs.length a dn out' (k * (zs.length + 1))) => Stg.next hR.out hp.out hlt h)
      rw [← hs] at hG hnx
      obtain ⟨N, hN⟩ : ∃ N, N = k * (zs.length + 1) := ⟨_, rfl⟩
      rw [← hN] at hG hnx
      have hNb : N ≤ 1001 := by
        rw [hN, ← hnl.out]
        have : k * (n + 1) ≤ 1 * (n + 1) := Nat.mul_le_mul_right _ (by omega)
        omega
      replace hN := Lib.hid hN
      replace hs := Lib.hid hs
      clear hI hQ'
      have hsw := hbw.size
      have S1 : (stT 52 (.pointer (some ⟨wr.heap.size, 0, none⟩)) (.agg #[.bool s, .int .u64 0, .int .u64 0, .int .i64 0])).run Tryz.prog (wr.alloc (.cells #[.bool false, .int .u64 0, .int .u64 0, .int .i64 0] 52)) = .ok .skip (wr.alloc (.cells (pfC (allP s)).toArray 52)) :=
        stT_new rowPf (te := 52) wr wr.heap.size rfl [.bool false, .int .u64 0, .int .u64 0, .int .i64 0] (pfC (allP s)) rfl rfl (pfC_one _)
      have hsb1 := hb1.size
      have h6 := Blk.new wr (pfC (allP s)) 52
      go_upto_region 6 with fail
      replace hown := hown.alloc' (.cells (pfC (allP s)).toArray 52)
      replace hbw := hbw.alloc hsw (.cells (pfC (allP s)).toArray 52)
      replace hb1 := hb1.alloc hsb1 (.cells (pfC (allP s)).toArray 52)
      clear S1
      generalize hwb : wr.alloc (.cells (pfC (allP s)).toArray 52) = wb at *
      have hwb2 : wb.heap.size = wr.heap.size + 1 := by rw [← hwb]; simp
      clear hwb
      have hzb := hbw.size
      have hzb1 := hb1.size
      have HO := fun w' => Lib.hid (of_w (allP s).1 w' (allP_R s).1.1)
      have HL := fun w' => Lib.hid (lastOf_w (allP s) w' (allP_R s))
      have eO : (allP s).1.n = s2n s := (allP_n s).1
      have eL : (allP s).1.n + 2 ^ freeB (allP s) - 1 = topN s := by
        rw [(allP_n s).1, (allP_n s).2]
        cases s
        · rw [topN_false, s2n_false]; rfl
        · rw [topN_true, s2n_true]; rfl
      rw [eO] at HO
      rw [eL] at HL
      clear eO eL
      have hob : ∀ q, u3.ownBlock = some q → q < wb.heap.size := fun q e => (hown.lt q e).2
      have hbb := Below.refl wb.heap.size wb
      go_cut [7, 8] (fun v7 v8 wx => ∃ p7 p8 : Nat, v7 = .pointer (some ⟨p7, 0, none⟩) ∧ v8 = .pointer (some ⟨p8, 0, none⟩) ∧ Blk wx p7 (digN (s2n s)) 90 ∧ Blk wx p8 (digN (topN s)) 90 ∧ OwnE eSp 103 (w.heap.size + 1) wx u3 out ∧ Below w.heap.size w wx ∧ Below w1.heap.size w1 wx ∧ wb.heap.size ≤ p7 ∧ wb.heap.size ≤ p8 ∧ p8 ≠ p7)
      case first => as_aux_lemma =>
        refine wb_begin [wr.heap.size] [] (by kernel_rfl) (fun u0 hb0' hz0' => ?_)
        replace h6 := h6.below hb0'
        replace hown := hown.below hb0'
        replace hbw := hbw.trans (hb0'.mono hbw.size)
        replace hbb := hbb.trans (hb0'.mono hbb.size)
        replace hb1 := hb1.trans (hb0'.mono hb1.size)
        clear hb0' hz0'
        refine wb_pure (i := 0) (d := some 21) (v := ?_) (by simp only [List.getElem?_toArray, List.getElem?_cons_succ, List.getElem?_cons_zero] <;> rfl) (by rfl) (by kernel_rfl) (by kernel_rfl) (by kernel_rfl) (fun _ _ _ h => h) (by rfl) ?_ ?_
        rotate_left
        · ((intro u); go_simp; try with_reducible rfl)
        try simp only [Act.put, List.setIfInBounds_toArray, List.set_cons_zero, List.set_cons_succ]
        refine wb_take (i := 1) (d := some 22) (v := ?_) (by simp only [List.getElem?_toArray, List.getElem?_cons_succ, List.getElem?_cons_zero] <;> rfl) (by rfl) (by kernel_rfl) (by kernel_rfl) (by kernel_rfl) (fun _ _ _ h => h) (by rfl) (by kernel_rfl) ?_ ?_
        rotate_left
        · ((intro u hu); have kc := h6.kb hu (List.mem_singleton.2 rfl); have k1 := kc.ldAt rowAd 0 (adC (allP s).1) [.int .i64 0] rfl rfl; go_simp; try with_reducible rfl)
        try simp only [Act.put, List.setIfInBounds_toArray, List.set_cons_zero, List.set_cons_succ]
        refine wb_take (i := 3) (d := some 24) (v := ?_) (by simp only [List.getElem?_toArray, List.getElem?_cons_succ, List.getElem?_cons_zero] <;> rfl) (by rfl) (by kernel_rfl) (by kernel_rfl) (by kernel_rfl) (fun _ _ _ h => h) (by rfl) (by kernel_rfl) ?_ ?_
        rotate_left
        · ((intro u hu); have kc := h6.kb hu (List.mem_singleton.2 rfl); have k1 := kc.ld rowPf rfl; go_simp; try with_reducible rfl)
        try simp only [Act.put, List.setIfInBounds_toArray, List.set_cons_zero, List.set_cons_succ]
        clear h6
        refine wb_three (i := 2) (k := 5) (l := 6) (by simp only [List.getElem?_toArray, List.getElem?_cons_succ, List.getElem?_cons_zero] <;> rfl) (by simp only [List.getElem?_toArray, List.getElem?_cons_succ, List.getElem?_cons_zero] <;> rfl) (by simp only [List.getElem?_toArray, List.getElem?_cons_succ, List.getElem?_cons_zero] <;> rfl) (by kernel_rfl) (by rfl) (by rfl) (by rfl) (fun K hK => ?_) (fun K hK => ?_) (fun K hK => ?_)
        · go_simp
          refine (HO _).out.mono ?_
          rintro e v1 ⟨rfl, hv1⟩
          have hzz := hbb.size
          refine hK _ _ (Kb.below hv1 (by intro q hq; rw [List.mem_singleton.1 hq]; omega)) ?_
          clear hzz
          replace hown := hown.below hv1
          replace hbw := hbw.trans (hv1.mono hbw.size)
          replace hbb := hbb.trans (hv1.mono hbb.size)
          replace hb1 := hb1.trans (hv1.mono hb1.size)
          clear hK K hv1
          try simp only [Act.put, List.setIfInBounds_toArray, List.set_cons_zero, List.set_cons_succ]
          refine wb_three (i := 4) (k := 5) (l := 6) (by simp only [List.getElem?_toArray, List.getElem?_cons_succ, List.getElem?_cons_zero] <;> rfl) (by simp only [List.getElem?_toArray, List.getElem?_cons_succ, List.getElem?_cons_zero] <;> rfl) (by simp only [List.getElem?_toArray, List.getElem?_cons_succ, List.getElem?_cons_zero] <;> rfl) (by kernel_rfl) (by rfl) (by rfl) (by rfl) (fun K hK => ?_) (fun K hK => ?_) (fun K hK => ?_)
          · go_simp
            refine (HL _).out.mono ?_
            rintro e v2 ⟨rfl, hv1⟩
            have hzz := hbb.size
            refine hK _ _ (Kb.below hv1 (by intro q hq; rw [List.mem_singleton.1 hq]; omega)) ?_
            clear hzz
            replace hown := hown.below hv1
            replace hbw := hbw.trans (hv1.mono hbw.size)
            replace hbb := hbb.trans (hv1.mono hbb.size)
            replace hb1 := hb1.trans (hv1.mono hb1.size)
            clear hK K hv1
            try simp only [Act.put, List.setIfInBounds_toArray, List.set_cons_zero, List.set_cons_succ]
            refine wb_two (i := 5) (k := 6) (by simp only [List.getElem?_toArray, List.getElem?_cons_succ, List.getElem?_cons_zero] <;> rfl) (by simp only [List.getElem?_toArray, List.getElem?_cons_succ, List.getElem?_cons_zero] <;> rfl) (by kernel_rfl) (by rfl) (by rfl) (fun K hK => ?_) (fun K hK => ?_)
            · go_simp
              have hzz := hbb.size
              refine hK _ _ (Kb.gb (World.grownBy_alloc _ _ none) (by intro q hq; rw [List.mem_singleton.1 hq]; exact ⟨by omega, by simp⟩)) ?_
              clear hzz
              have hB7 := hbb.size
              refine wb_new (cs := [.int .i64 0, .int .i64 0, .int .i64 0, .int .i64 0, .int .i64 0, .int .i64 0, .int .i64 0, .int .i64 0, .int .i64 0]) (t := 90) (fun v3 hv1 h7 hz3 => ?_)
              replace hown := hown.below hv1
              replace hbw := hbw.trans (hv1.mono hbw.size)
              replace hbb := hbb.trans (hv1.mono hbb.size)
              replace hb1 := hb1.trans (hv1.mono hb1.size)
              clear hK K hv1 hz3
              try simp only [Act.put, List.setIfInBounds_toArray, List.set_cons_zero, List.set_cons_succ]
              refine wb_one (i := 6) (by simp only [List.getElem?_toArray, List.getElem?_cons_succ, List.getElem?_cons_zero] <;> rfl) (by kernel_rfl) (by rfl) (fun K hK => ?_)
              go_simp
              have hzz := hbb.size
              refine hK _ _ (Kb.gb (World.grownBy_alloc _ _ none) (by intro q hq; rw [List.mem_singleton.1 hq]; exact ⟨by omega, by simp⟩)) ?_
              clear hzz
              have hB8 := hbb.size
              have n78 := Ne.symm (Nat.ne_of_lt (Blk.lt h7))
              refine wb_new (cs := [.int .i64 0, .int .i64 0, .int .i64 0, .int .i64 0, .int .i64 0, .int .i64 0, .int .i64 0, .int .i64 0, .int .i64 0]) (t := 90) (fun v4 hv1 h8 hz4 => ?_)
              replace h7 := h7.below hv1
              replace hown := hown.below hv1
              replace hbw := hbw.trans (hv1.mono hbw.size)
              replace hbb := hbb.trans (hv1.mono hbb.size)
              replace hb1 := hb1.trans (hv1.mono hb1.size)
              clear hK K hv1 hz4
              try simp only [Act.put, List.setIfInBounds_toArray, List.set_cons_zero, List.set_cons_succ]
              have S7 := stT_row rowW h7 rfl (digN_len (s2n s)) (digN_one _)
              refine wb_one (i := 7) (by simp only [List.getElem?_toArray, List.getElem?_cons_succ, List.getElem?_cons_zero] <;> rfl) (by kernel_rfl) (by rfl) (fun K hK => ?_)
              go_simp
              refine hK _ _ (fun p hp => setRow_other _ _ _ _ (by have := List.mem_singleton.1 hp; omega)) ?_
              clear hK K S7
              replace h8 := gbo_setRow h8 h7 (n78.symm) (digN (s2n s)).toArray
              replace hown := own_setRow hown h7 (fun e => (by have := hob _ e; omega)) (digN (s2n s)).toArray
              replace hbw := below_row hbw (Nat.le_trans hzb hB7) (digN (s2n s)).toArray
              replace hb1 := below_row hb1 (Nat.le_trans hzb1 hB7) (digN (s2n s)).toArray
              replace h7 := h7.row (digN (s2n s))
              try simp only [Act.put, List.setIfInBounds_toArray, List.set_cons_zero, List.set_cons_succ]
              have S8 := stT_row rowW h8 rfl (digN_len (topN s)) (digN_one _)
              refine wb_one (i := 8) (by simp only [List.getElem?_toArray, List.getElem?_cons_succ, List.getElem?_cons_zero] <;> rfl) (by kernel_rfl) (by rfl) (fun K hK => ?_)
              go_simp
              refine hK _ _ (fun p hp => setRow_other _ _ _ _ (by have := List.mem_singleton.1 hp; omega)) ?_
              clear hK K S8
              replace h7 := gbo_setRow h7 h8 (n78) (digN (topN s)).toArray
              replace hown := own_setRow hown h8 (fun e => (by have := hob _ e; omega)) (digN (topN s)).toArray
              replace hbw := below_row hbw (Nat.le_trans hzb hB8) (digN (topN s)).toArray
              replace hb1 := below_row hb1 (Nat.le_trans hzb1 hB8) (digN (topN s)).toArray
              replace h8 := h8.row (digN (topN s))
              try simp only [Act.put, List.setIfInBounds_toArray, List.set_cons_zero, List.set_cons_succ]
              refine wb_done (by kernel_rfl) ?_ _
              skip
              go_wp2_with fail
              go_meet
              exact ⟨_, _, rfl, rfl, h7, h8, hown, hbw, hb1, hB7, hB8, n78⟩
            · go_simp
              have hzz := hbb.size
              refine hK _ _ (Kb.gb (World.grownBy_alloc _ _ none) (by intro q hq; rw [List.mem_singleton.1 hq]; exact ⟨by omega, by simp⟩)) ?_
              clear hzz
              have hB8 := hbb.size
              refine wb_new (cs := [.int .i64 0, .int .i64 0, .int .i64 0, .int .i64 0, .int .i64 0, .int .i64 0, .int .i64 0, .int .i64 0, .int .i64 0]) (t := 90) (fun v5 hv1 h8 hz5 => ?_)
              replace hown := hown.below hv1
              replace hbw := hbw.trans (hv1.mono hbw.size)
              replace hbb := hbb.trans (hv1.mono hbb.size)
              replace hb1 := hb1.trans (hv1.mono hb1.size)
              clear hK K hv1 hz5
              try simp only [Act.put, List.setIfInBounds_toArray, List.set_cons_zero, List.set_cons_succ]
              refine wb_one (i := 5) (by simp only [List.getElem?_toArray, List.getElem?_cons_succ, List.getElem?_cons_zero] <;> rfl) (by kernel_rfl) (by rfl) (fun K hK => ?_)
              go_simp
              have hzz := hbb.size
              refine hK _ _ (Kb.gb (World.grownBy_alloc _ _ none) (by intro q hq; rw [List.mem_singleton.1 hq]; exact ⟨by omega, by simp⟩)) ?_
              clear hzz
              have hB7 := hbb.size
              have n78 := Nat.ne_of_lt (Blk.lt h8)
              refine wb_new (cs := [.int .i64 0, .int .i64 0, .int .i64 0, .int .i64 0, .int .i64 0, .int .i64 0, .int .i64 0, .int .i64 0, .int .i64 0]) (t := 90) (fun v6 hv1 h7 hz6 => ?_)
              replace h8 := h8.below hv1
              replace hown := hown.below hv1
              replace hbw := hbw.trans (hv1.mono hbw.size)
              replace hbb := hbb.trans (hv1.mono hbb.size)
              replace hb1 := hb1.trans (hv1.mono hb1.size)
              clear hK K hv1 hz6
              try simp only [Act.put, List.setIfInBounds_toArray, List.set_cons_zero, List.set_cons_succ]
              have S7 := stT_row rowW h7 rfl (digN_len (s2n s)) (digN_one _)
              refine wb_one (i := 7) (by simp only [List.getElem?_toArray, List.getElem?_cons_succ, List.getElem?_cons_zero] <;> rfl) (by kernel_rfl) (by rfl) (fun K hK => ?_)
              go_simp
              refine hK _ _ (fun p hp => setRow_other _ _ _ _ (by have := List.mem_singleton.1 hp; omega)) ?_
              clear hK K S7
              replace h8 := gbo_setRow h8 h7 (n78.symm) (digN (s2n s)).toArray
              replace hown := own_setRow hown h7 (fun e => (by have := hob _ e; omega)) (digN (s2n s)).toArray
              replace hbw := below_row hbw (Nat.le_trans hzb hB7) (digN (s2n s)).toArray
              replace hb1 := below_row hb1 (Nat.le_trans hzb1 hB7) (digN (s2n s)).toArray
              replace h7 := h7.row (digN (s2n s))
              try simp only [Act.put, List.setIfInBounds_toArray, List.set_cons_zero, List.set_cons_succ]
              have S8 := stT_row rowW h8 rfl (digN_len (topN s)) (digN_one _)
              refine wb_one (i := 8) (by simp only [List.getElem?_toArray, List.getElem?_cons_succ, List.getElem?_cons_zero] <;> rfl) (by kernel_rfl) (by rfl) (fun K hK => ?_)
              go_simp
              refine hK _ _ (fun p hp => setRow_other _ _ _ _ (by have := List.mem_singleton.1 hp; omega)) ?_
              clear hK K S8
              replace h7 := gbo_setRow h7 h8 (n78) (digN (topN s)).toArray
              replace hown := own_setRow hown h8 (fun e => (by have := hob _ e; omega)) (digN (topN s)).toArray
              replace hbw := below_row hbw (Nat.le_trans hzb hB8) (digN (topN s)).toArray
              replace hb1 := below_row hb1 (Nat.le_trans hzb1 hB8) (digN (topN s)).toArray
              replace h8 := h8.row (digN (topN s))
              try simp only [Act.put, List.setIfInBounds_toArray, List.set_cons_zero, List.set_cons_succ]
              refine wb_done (by kernel_rfl) ?_ _
              skip
              go_wp2_with fail
              go_meet
              exact ⟨_, _, rfl, rfl, h7, h8, hown, hbw, hb1, hB7, hB8, n78⟩
          · go_simp
            have hzz := hbb.size
            refine hK _ _ (Kb.gb (World.grownBy_alloc _ _ none) (by intro q hq; rw [List.mem_singleton.1 hq]; exact ⟨by omega, by simp⟩)) ?_
            clear hzz
            have hB7 := hbb.size
            refine wb_new (cs := [.int .i64 0, .int .i64 0, .int .i64 0, .int .i64 0, .int .i64 0, .int .i64 0, .int .i64 0, .int .i64 0, .int .i64 0]) (t := 90) (fun v7 hv1 h7 hz7 => ?_)
            replace hown := hown.below hv1
            replace hbw := hbw.trans (hv1.mono hbw.size)
            replace hbb := hbb.trans (hv1.mono hbb.size)
            replace hb1 := hb1.trans (hv1.mono hb1.size)
            clear hK K hv1 hz7
            try simp only [Act.put, List.setIfInBounds_toArray, List.set_cons_zero, List.set_cons_succ]
            refine wb_two (i := 4) (k := 6) (by simp only [List.getElem?_toArray, List.getElem?_cons_succ, List.getElem?_cons_zero] <;> rfl) (by simp only [List.getElem?_toArray, List.getElem?_cons_succ, List.getElem?_cons_zero] <;> rfl) (by kernel_rfl) (by rfl) (by rfl) (fun K hK => ?_) (fun K hK => ?_)
            · go_simp
              refine (HL _).out.mono ?_
              rintro e v8 ⟨rfl, hv1⟩
              have hzz := hbb.size
              refine hK _ _ (Kb.below hv1 (by intro q hq; rw [List.mem_singleton.1 hq]; omega)) ?_
              clear hzz
              replace h7 := h7.below hv1
              replace hown := hown.below hv1
              replace hbw := hbw.trans (hv1.mono hbw.size)
              replace hbb := hbb.trans (hv1.mono hbb.size)
              replace hb1 := hb1.trans (hv1.mono hb1.size)
              clear hK K hv1
              try simp only [Act.put, List.setIfInBounds_toArray, List.set_cons_zero, List.set_cons_succ]
              refine wb_one (i := 6) (by simp only [List.getElem?_toArray, List.getElem?_cons_succ, List.getElem?_cons_zero] <;> rfl) (by kernel_rfl) (by rfl) (fun K hK => ?_)
              go_simp
              have hzz := hbb.size
              refine hK _ _ (Kb.gb (World.grownBy_alloc _ _ none) (by intro q hq; rw [List.mem_singleton.1 hq]; exact ⟨by omega, by simp⟩)) ?_
              clear hzz
              have hB8 := hbb.size
              have n78 := Ne.symm (Nat.ne_of_lt (Blk.lt h7))
              refine wb_new (cs := [.int .i64 0, .int .i64 0, .int .i64 0, .int .i64 0, .int .i64 0, .int .i64 0, .int .i64 0, .int .i64 0, .int .i64 0]) (t := 90) (fun v9 hv1 h8 hz9 => ?_)
              replace h7 := h7.below hv1
              replace hown := hown.below hv1
              replace hbw := hbw.trans (hv1.mono hbw.size)
              replace hbb := hbb.trans (hv1.mono hbb.size)
              replace hb1 := hb1.trans (hv1.mono hb1.size)
              clear hK K hv1 hz9
              try simp only [Act.put, List.setIfInBounds_toArray, List.set_cons_zero, List.set_cons_succ]
              have S7 := stT_row rowW h7 rfl (digN_len (s2n s)) (digN_one _)
              refine wb_one (i := 7) (by simp only [List.getElem?_toArray, List.getElem?_cons_succ, List.getElem?_cons_zero] <;> rfl) (by kernel_rfl) (by rfl) (fun K hK => ?_)
              go_simp
              refine hK _ _ (fun p hp => setRow_other _ _ _ _ (by have := List.mem_singleton.1 hp; omega)) ?_
              clear hK K S7
              replace h8 := gbo_setRow h8 h7 (n78.symm) (digN (s2n s)).toArray
              replace hown := own_setRow hown h7 (fun e => (by have := hob _ e; omega)) (digN (s2n s)).toArray
              replace hbw := below_row hbw (Nat.le_trans hzb hB7) (digN (s2n s)).toArray
              replace hb1 := below_row hb1 (Nat.le_trans hzb1 hB7) (digN (s2n s)).toArray
              replace h7 := h7.row (digN (s2n s))
              try simp only [Act.put, List.setIfInBounds_toArray, List.set_cons_zero, List.set_cons_succ]
              have S8 := stT_row rowW h8 rfl (digN_len (topN s)) (digN_one _)
              refine wb_one (i := 8) (by simp only [List.getElem?_toArray, List.getElem?_cons_succ, List.getElem?_cons_zero] <;> rfl) (by kernel_rfl) (by rfl) (fun K hK => ?_)
              go_simp
              refine hK _ _ (fun p hp => setRow_other _ _ _ _ (by have := List.mem_singleton.1 hp; omega)) ?_
              clear hK K S8
              replace h7 := gbo_setRow h7 h8 (n78) (digN (topN s)).toArray
              replace hown := own_setRow hown h8 (fun e => (by have := hob _ e; omega)) (digN (topN s)).toArray
              replace hbw := below_row hbw (Nat.le_trans hzb hB8) (digN (topN s)).toArray
              replace hb1 := below_row hb1 (Nat.le_trans hzb1 hB8) (digN (topN s)).toArray
              replace h8 := h8.row (digN (topN s))
              try simp only [Act.put, List.setIfInBounds_toArray, List.set_cons_zero, List.set_cons_succ]
              refine wb_done (by kernel_rfl) ?_ _
              skip
              go_wp2_with fail
              go_meet
              exact ⟨_, _, rfl, rfl, h7, h8, hown, hbw, hb1, hB7, hB8, n78⟩
            · go_simp
              have hzz := hbb.size
              refine hK _ _ (Kb.gb (World.grownBy_alloc _ _ none) (by intro q hq; rw [List.mem_singleton.1 hq]; exact ⟨by omega, by simp⟩)) ?_
              clear hzz
              have hB8 := hbb.size
              have n78 := Ne.symm (Nat.ne_of_lt (Blk.lt h7))
              refine wb_new (cs := [.int .i64 0, .int .i64 0, .int .i64 0, .int .i64 0, .int .i64 0, .int .i64 0, .int .i64 0, .int .i64 0, .int .i64 0]) (t := 90) (fun v10 hv1 h8 hz10 => ?_)
              replace h7 := h7.below hv1
              replace hown := hown.below hv1
              replace hbw := hbw.trans (hv1.mono hbw.size)
              replace hbb := hbb.trans (hv1.mono hbb.size)
              replace hb1 := hb1.trans (hv1.mono hb1.size)
              clear hK K hv1 hz10
              try simp only [Act.put, List.setIfInBounds_toArray, List.set_cons_zero, List.set_cons_succ]
              refine wb_one (i := 4) (by simp only [List.getElem?_toArray, List.getElem?_cons_succ, List.getElem?_cons_zero] <;> rfl) (by kernel_rfl) (by rfl) (fun K hK => ?_)
              go_simp
              refine (HL _).out.mono ?_
              rintro e v11 ⟨rfl, hv1⟩
              have hzz := hbb.size
              refine hK _ _ (Kb.below hv1 (by intro q hq; rw [List.mem_singleton.1 hq]; omega)) ?_
              clear hzz
              replace h7 := h7.below hv1
              replace h8 := h8.below hv1
              replace hown := hown.below hv1
              replace hbw := hbw.trans (hv1.mono hbw.size)
              replace hbb := hbb.trans (hv1.mono hbb.size)
              replace hb1 := hb1.trans (hv1.mono hb1.size)
              clear hK K hv1
              try simp only [Act.put, List.setIfInBounds_toArray, List.set_cons_zero, List.set_cons_succ]
              have S7 := stT_row rowW h7 rfl (digN_len (s2n s)) (digN_one _)
              refine wb_one (i := 7) (by simp only [List.getElem?_toArray, List.getElem?_cons_succ, List.getElem?_cons_zero] <;> rfl) (by kernel_rfl) (by rfl) (fun K hK => ?_)
              go_simp
              refine hK _ _ (fun p hp => setRow_other _ _ _ _ (by have := List.mem_singleton.1 hp; omega)) ?_
              clear hK K S7
              replace h8 := gbo_setRow h8 h7 (n78.symm) (digN (s2n s)).toArray
              replace hown := own_setRow hown h7 (fun e => (by have := hob _ e; omega)) (digN (s2n s)).toArray
              replace hbw := below_row hbw (Nat.le_trans hzb hB7) (digN (s2n s)).toArray
              replace hb1 := below_row hb1 (Nat.le_trans hzb1 hB7) (digN (s2n s)).toArray
              replace h7 := h7.row (digN (s2n s))
              try simp only [Act.put, List.setIfInBounds_toArray, List.set_cons_zero, List.set_cons_succ]
              have S8 := stT_row rowW h8 rfl (digN_len (topN s)) (digN_one _)
              refine wb_one (i := 8) (by simp only [List.getElem?_toArray, List.getElem?_cons_succ, List.getElem?_cons_zero] <;> rfl) (by kernel_rfl) (by rfl) (fun K hK => ?_)
              go_simp
              refine hK _ _ (fun p hp => setRow_other _ _ _ _ (by have := List.mem_singleton.1 hp; omega)) ?_
              clear hK K S8
              replace h7 := gbo_setRow h7 h8 (n78) (digN (topN s)).toArray
              replace hown := own_setRow hown h8 (fun e => (by have := hob _ e; omega)) (digN (topN s)).toArray
              replace hbw := below_row hbw (Nat.le_trans hzb hB8) (digN (topN s)).toArray
              replace hb1 := below_row hb1 (Nat.le_trans hzb1 hB8) (digN (topN s)).toArray
              replace h8 := h8.row (digN (topN s))
              try simp only [Act.put, List.setIfInBounds_toArray, List.set_cons_zero, List.set_cons_succ]
              refine wb_done (by kernel_rfl) ?_ _
              skip
              go_wp2_with fail
              go_meet
              exact ⟨_, _, rfl, rfl, h7, h8, hown, hbw, hb1, hB7, hB8, n78⟩
          · go_simp
            have hzz := hbb.size
            refine hK _ _ (Kb.gb (World.grownBy_alloc _ _ none) (by intro q hq; rw [List.mem_singleton.1 hq]; exact ⟨by omega, by simp⟩)) ?_
            clear hzz
            have hB8 := hbb.size
            refine wb_new (cs := [.int .i64 0, .int .i64 0, .int .i64 0, .int .i64 0, .int .i64 0, .int .i64 0, .int .i64 0, .int .i64 0, .int .i64 0]) (t := 90) (fun v12 hv1 h8 hz12 => ?_)
            replace hown := hown.below hv1
            replace hbw := hbw.trans (hv1.mono hbw.size)
            replace hbb := hbb.trans (hv1.mono hbb.size)
            replace hb1 := hb1.trans (hv1.mono hb1.size)
            clear hK K hv1 hz12
            try simp only [Act.put, List.setIfInBounds_toArray, List.set_cons_zero, List.set_cons_succ]
            refine wb_two (i := 4) (k := 5) (by simp only [List.getElem?_toArray, List.getElem?_cons_succ, List.getElem?_cons_zero] <;> rfl) (by simp only [List.getElem?_toArray, List.getElem?_cons_succ, List.getElem?_cons_zero] <;> rfl) (by kernel_rfl) (by rfl) (by rfl) (fun K hK => ?_) (fun K hK => ?_)
            · go_simp
              refine (HL _).out.mono ?_
              rintro e v13 ⟨rfl, hv1⟩
              have hzz := hbb.size
              refine hK _ _ (Kb.below hv1 (by intro q hq; rw [List.mem_singleton.1 hq]; omega)) ?_
              clear hzz
              replace h8 := h8.below hv1
              replace hown := hown.below hv1
              replace hbw := hbw.trans (hv1.mono hbw.size)
              replace hbb := hbb.trans (hv1.mono hbb.size)
              replace hb1 := hb1.trans (hv1.mono hb1.size)
              clear hK K hv1
              try simp only [Act.put, List.setIfInBounds_toArray, List.set_cons_zero, List.set_cons_succ]
              refine wb_one (i := 5) (by simp only [List.getElem?_toArray, List.getElem?_cons_succ, List.getElem?_cons_zero] <;> rfl) (by kernel_rfl) (by rfl) (fun K hK => ?_)
              go_simp
              have hzz := hbb.size
              refine hK _ _ (Kb.gb (World.grownBy_alloc _ _ none) (by intro q hq; rw [List.mem_singleton.1 hq]; exact ⟨by omega, by simp⟩)) ?_
              clear hzz
              have hB7 := hbb.size
              have n78 := Nat.ne_of_lt (Blk.lt h8)
              refine wb_new (cs := [.int .i64 0, .int .i64 0, .int .i64 0, .int .i64 0, .int .i64 0, .int .i64 0, .int .i64 0, .int .i64 0, .int .i64 0]) (t := 90) (fun v14 hv1 h7 hz14 => ?_)
              replace h8 := h8.below hv1
              replace hown := hown.below hv1
              replace hbw := hbw.trans (hv1.mono hbw.size)
              replace hbb := hbb.trans (hv1.mono hbb.size)
              replace hb1 := hb1.trans (hv1.mono hb1.size)
              clear hK K hv1 hz14
              try simp only [Act.put, List.setIfInBounds_toArray, List.set_cons_zero, List.set_cons_succ]
              have S7 := stT_row rowW h7 rfl (digN_len (s2n s)) (digN_one _)
              refine wb_one (i := 7) (by simp only [List.getElem?_toArray, List.getElem?_cons_succ, List.getElem?_cons_zero] <;> rfl) (by kernel_rfl) (by rfl) (fun K hK => ?_)
              go_simp
              refine hK _ _ (fun p hp => setRow_other _ _ _ _ (by have := List.mem_singleton.1 hp; omega)) ?_
              clear hK K S7
              replace h8 := gbo_setRow h8 h7 (n78.symm) (digN (s2n s)).toArray
              replace hown := own_setRow hown h7 (fun e => (by have := hob _ e; omega)) (digN (s2n s)).toArray
              replace hbw := below_row hbw (Nat.le_trans hzb hB7) (digN (s2n s)).toArray
              replace hb1 := below_row hb1 (Nat.le_trans hzb1 hB7) (digN (s2n s)).toArray
              replace h7 := h7.row (digN (s2n s))
              try simp only [Act.put, List.setIfInBounds_toArray, List.set_cons_zero, List.set_cons_succ]
              have S8 := stT_row rowW h8 rfl (digN_len (topN s)) (digN_one _)
              refine wb_one (i := 8) (by simp only [List.getElem?_toArray, List.getElem?_cons_succ, List.getElem?_cons_zero] <;> rfl) (by kernel_rfl) (by rfl) (fun K hK => ?_)
              go_simp
              refine hK _ _ (fun p hp => setRow_other _ _ _ _ (by have := List.mem_singleton.1 hp; omega)) ?_
              clear hK K S8
              replace h7 := gbo_setRow h7 h8 (n78) (digN (topN s)).toArray
              replace hown := own_setRow hown h8 (fun e => (by have := hob _ e; omega)) (digN (topN s)).toArray
              replace hbw := below_row hbw (Nat.le_trans hzb hB8) (digN (topN s)).toArray
              replace hb1 := below_row hb1 (Nat.le_trans hzb1 hB8) (digN (topN s)).toArray
              replace h8 := h8.row (digN (topN s))
              try simp only [Act.put, List.setIfInBounds_toArray, List.set_cons_zero, List.set_cons_succ]
              refine wb_done (by kernel_rfl) ?_ _
              skip
              go_wp2_with fail
              go_meet
              exact ⟨_, _, rfl, rfl, h7, h8, hown, hbw, hb1, hB7, hB8, n78⟩
            · go_simp
              have hzz := hbb.size
              refine hK _ _ (Kb.gb (World.grownBy_alloc _ _ none) (by intro q hq; rw [List.mem_singleton.1 hq]; exact ⟨by omega, by simp⟩)) ?_
              clear hzz
              have hB7 := hbb.size
              have n78 := Nat.ne_of_lt (Blk.lt h8)
              refine wb_new (cs := [.int .i64 0, .int .i64 0, .int .i64 0, .int .i64 0, .int .i64 0, .int .i64 0, .int .i64 0, .int .i64 0, .int .i64 0]) (t := 90) (fun v15 hv1 h7 hz15 => ?_)
              replace h8 := h8.below hv1
              replace hown := hown.below hv1
              replace hbw := hbw.trans (hv1.mono hbw.size)
              replace hbb := hbb.trans (hv1.mono hbb.size)
              replace hb1 := hb1.trans (hv1.mono hb1.size)
              clear hK K hv1 hz15
              try simp only [Act.put, List.setIfInBounds_toArray, List.set_cons_zero, List.set_cons_succ]
              refine wb_one (i := 4) (by simp only [List.getElem?_toArray, List.getElem?_cons_succ, List.getElem?_cons_zero] <;> rfl) (by kernel_rfl) (by rfl) (fun K hK => ?_)
              go_simp
              refine (HL _).out.mono ?_
              rintro e v16 ⟨rfl, hv1⟩
              have hzz := hbb.size
              refine hK _ _ (Kb.below hv1 (by intro q hq; rw [List.mem_singleton.1 hq]; omega)) ?_
              clear hzz
              replace h8 := h8.below hv1
              replace h7 := h7.below hv1
              replace hown := hown.below hv1
              replace hbw := hbw.trans (hv1.mono hbw.size)
              replace hbb := hbb.trans (hv1.mono hbb.size)
              replace hb1 := hb1.trans (hv1.mono hb1.size)
              clear hK K hv1
              try simp only [Act.put, List.setIfInBounds_toArray, List.set_cons_zero, List.set_cons_succ]
              have S7 := stT_row rowW h7 rfl (digN_len (s2n s)) (digN_one _)
              refine wb_one (i := 7) (by simp only [List.getElem?_toArray, List.getElem?_cons_succ, List.getElem?_cons_zero] <;> rfl) (by kernel_rfl) (by rfl) (fun K hK => ?_)
              go_simp
              refine hK _ _ (fun p hp => setRow_other _ _ _ _ (by have := List.mem_singleton.1 hp; omega)) ?_
              clear hK K S7
              replace h8 := gbo_setRow h8 h7 (n78.symm) (digN (s2n s)).toArray
              replace hown := own_setRow hown h7 (fun e => (by have := hob _ e; omega)) (digN (s2n s)).toArray
              replace hbw := below_row hbw (Nat.le_trans hzb hB7) (digN (s2n s)).toArray
              replace hb1 := below_row hb1 (Nat.le_trans hzb1 hB7) (digN (s2n s)).toArray
              replace h7 := h7.row (digN (s2n s))
              try simp only [Act.put, List.setIfInBounds_toArray, List.set_cons_zero, List.set_cons_succ]
              have S8 := stT_row rowW h8 rfl (digN_len (topN s)) (digN_one _)
              refine wb_one (i := 8) (by simp only [List.getElem?_toArray, List.getElem?_cons_succ, List.getElem?_cons_zero] <;> rfl) (by kernel_rfl) (by rfl) (fun K hK => ?_)
              go_simp
              refine hK _ _ (fun p hp => setRow_other _ _ _ _ (by have := List.mem_singleton.1 hp; omega)) ?_
              clear hK K S8
              replace h7 := gbo_setRow h7 h8 (n78) (digN (topN s)).toArray
              replace hown := own_setRow hown h8 (fun e => (by have := hob _ e; omega)) (digN (topN s)).toArray
              replace hbw := below_row hbw (Nat.le_trans hzb hB8) (digN (topN s)).toArray
              replace hb1 := below_row hb1 (Nat.le_trans hzb1 hB8) (digN (topN s)).toArray
              replace h8 := h8.row (digN (topN s))
              try simp only [Act.put, List.setIfInBounds_toArray, List.set_cons_zero, List.set_cons_succ]
              refine wb_done (by kernel_rfl) ?_ _
              skip
              go_wp2_with fail
              go_meet
              exact ⟨_, _, rfl, rfl, h7, h8, hown, hbw, hb1, hB7, hB8, n78⟩
        · go_simp
          have hzz := hbb.size
          refine hK _ _ (Kb.gb (World.grownBy_alloc _ _ none) (by intro q hq; rw [List.mem_singleton.1 hq]; exact ⟨by omega, by simp⟩)) ?_
          clear hzz
          have hB7 := hbb.size
          refine wb_new (cs := [.int .i64 0, .int .i64 0, .int .i64 0, .int .i64 0, .int .i64 0, .int .i64 0, .int .i64 0, .int .i64 0, .int .i64 0]) (t := 90) (fun v17 hv1 h7 hz17 => ?_)
          replace hown := hown.below hv1
          replace hbw := hbw.trans (hv1.mono hbw.size)
          replace hbb := hbb.trans (hv1.mono hbb.size)
          replace hb1 := hb1.trans (hv1.mono hb1.size)
          clear hK K hv1 hz17
          try simp only [Act.put, List.setIfInBounds_toArray, List.set_cons_zero, List.set_cons_succ]
          refine wb_two (i := 2) (k := 6) (by simp only [List.getElem?_toArray, List.getElem?_cons_succ, List.getElem?_cons_zero] <;> rfl) (by simp only [List.getElem?_toArray, List.getElem?_cons_succ, List.getElem?_cons_zero] <;> rfl) (by kernel_rfl) (by rfl) (by rfl) (fun K hK => ?_) (fun K hK => ?_)
          · go_simp
            refine (HO _).out.mono ?_
            rintro e v18 ⟨rfl, hv1⟩
            have hzz := hbb.size
            refine hK _ _ (Kb.below hv1 (by intro q hq; rw [List.mem_singleton.1 hq]; omega)) ?_
            clear hzz
            replace h7 := h7.below hv1
            replace hown := hown.below hv1
            replace hbw := hbw.trans (hv1.mono hbw.size)
            replace hbb := hbb.trans (hv1.mono hbb.size)
            replace hb1 := hb1.trans (hv1.mono hb1.size)
            clear hK K hv1
            try simp only [Act.put, List.setIfInBounds_toArray, List.set_cons_zero, List.set_cons_succ]
            refine wb_two (i := 4) (k := 6) (by simp only [List.getElem?_toArray, List.getElem?_cons_succ, List.getElem?_cons_zero] <;> rfl) (by simp only [List.getElem?_toArray, List.getElem?_cons_succ, List.getElem?_cons_zero] <;> rfl) (by kernel_rfl) (by rfl) (by rfl) (fun K hK => ?_) (fun K hK => ?_)
            · go_simp
              refine (HL _).out.mono ?_
              rintro e v19 ⟨rfl, hv1⟩
              have hzz := hbb.size
              refine hK _ _ (Kb.below hv1 (by intro q hq; rw [List.mem_singleton.1 hq]; omega)) ?_
              clear hzz
              replace h7 := h7.below hv1
              replace hown := hown.below hv1
              replace hbw := hbw.trans (hv1.mono hbw.size)
              replace hbb := hbb.trans (hv1.mono hbb.size)
              replace hb1 := hb1.trans (hv1.mono hb1.size)
              clear hK K hv1
              try simp only [Act.put, List.setIfInBounds_toArray, List.set_cons_zero, List.set_cons_succ]
              refine wb_one (i := 6) (by simp only [List.getElem?_toArray, List.getElem?_cons_succ, List.getElem?_cons_zero] <;> rfl) (by kernel_rfl) (by rfl) (fun K hK => ?_)
              go_simp
              have hzz := hbb.size
              refine hK _ _ (Kb.gb (World.grownBy_alloc _ _ none) (by intro q hq; rw [List.mem_singleton.1 hq]; exact ⟨by omega, by simp⟩)) ?_
              clear hzz
              have hB8 := hbb.size
              have n78 := Ne.symm (Nat.ne_of_lt (Blk.lt h7))
              refine wb_new (cs := [.int .i64 0, .int .i64 0, .int .i64 0, .int .i64 0, .int .i64 0, .int .i64 0, .int .i64 0, .int .i64 0, .int .i64 0]) (t := 90) (fun v20 hv1 h8 hz20 => ?_)
              replace h7 := h7.below hv1
              replace hown := hown.below hv1
              replace hbw := hbw.trans (hv1.mono hbw.size)
              replace hbb := hbb.trans (hv1.mono hbb.size)
              replace hb1 := hb1.trans (hv1.mono hb1.size)
              clear hK K hv1 hz20
              try simp only [Act.put, List.setIfInBounds_toArray, List.set_cons_zero, List.set_cons_succ]
              have S7 := stT_row rowW h7 rfl (digN_len (s2n s)) (digN_one _)
              refine wb_one (i := 7) (by simp only [List.getElem?_toArray, List.getElem?_cons_succ, List.getElem?_cons_zero] <;> rfl) (by kernel_rfl) (by rfl) (fun K hK => ?_)
              go_simp
              refine hK _ _ (fun p hp => setRow_other _ _ _ _ (by have := List.mem_singleton.1 hp; omega)) ?_
              clear hK K S7
              replace h8 := gbo_setRow h8 h7 (n78.symm) (digN (s2n s)).toArray
              replace hown := own_setRow hown h7 (fun e => (by have := hob _ e; omega)) (digN (s2n s)).toArray
              replace hbw := below_row hbw (Nat.le_trans hzb hB7) (digN (s2n s)).toArray
              replace hb1 := below_row hb1 (Nat.le_trans hzb1 hB7) (digN (s2n s)).toArray
              replace h7 := h7.row (digN (s2n s))
              try simp only [Act.put, List.setIfInBounds_toArray, List.set_cons_zero, List.set_cons_succ]
              have S8 := stT_row rowW h8 rfl (digN_len (topN s)) (digN_one _)
              refine wb_one (i := 8) (by simp only [List.getElem?_toArray, List.getElem?_cons_succ, List.getElem?_cons_zero] <;> rfl) (by kernel_rfl) (by rfl) (fun K hK => ?_)
              go_simp
              refine hK _ _ (fun p hp => setRow_other _ _ _ _ (by have := List.mem_singleton.1 hp; omega)) ?_
              clear hK K S8
              replace h7 := gbo_setRow h7 h8 (n78) (digN (topN s)).toArray
              replace hown := own_setRow hown h8 (fun e => (by have := hob _ e; omega)) (digN (topN s)).toArray
              replace hbw := below_row hbw (Nat.le_trans hzb hB8) (digN (topN s)).toArray
              replace hb1 := below_row hb1 (Nat.le_trans hzb1 hB8) (digN (topN s)).toArray
              replace h8 := h8.row (digN (topN s))
              try simp only [Act.put, List.setIfInBounds_toArray, List.set_cons_zero, List.set_cons_succ]
              refine wb_done (by kernel_rfl) ?_ _
              skip
              go_wp2_with fail
              go_meet
              exact ⟨_, _, rfl, rfl, h7, h8, hown, hbw, hb1, hB7, hB8, n78⟩
            · go_simp
              have hzz := hbb.size
              refine hK _ _ (Kb.gb (World.grownBy_alloc _ _ none) (by intro q hq; rw [List.mem_singleton.1 hq]; exact ⟨by omega, by simp⟩)) ?_
              clear hzz
              have hB8 := hbb.size
              have n78 := Ne.symm (Nat.ne_of_lt (Blk.lt h7))
              refine wb_new (cs := [.int .i64 0, .int .i64 0, .int .i64 0, .int .i64 0, .int .i64 0, .int .i64 0, .int .i64 0, .int .i64 0, .int .i64 0]) (t := 90) (fun v21 hv1 h8 hz21 => ?_)
              replace h7 := h7.below hv1
              replace hown := hown.below hv1
              replace hbw := hbw.trans (hv1.mono hbw.size)
              replace hbb := hbb.trans (hv1.mono hbb.size)
              replace hb1 := hb1.trans (hv1.mono hb1.size)
              clear hK K hv1 hz21
              try simp only [Act.put, List.setIfInBounds_toArray, List.set_cons_zero, List.set_cons_succ]
              refine wb_one (i := 4) (by simp only [List.getElem?_toArray, List.getElem?_cons_succ, List.getElem?_cons_zero] <;> rfl) (by kernel_rfl) (by rfl) (fun K hK => ?_)
              go_simp
              refine (HL _).out.mono ?_
              rintro e v22 ⟨rfl, hv1⟩
              have hzz := hbb.size
              refine hK _ _ (Kb.below hv1 (by intro q hq; rw [List.mem_singleton.1 hq]; omega)) ?_
              clear hzz
              replace h7 := h7.below hv1
              replace h8 := h8.below hv1
              replace hown := hown.below hv1
              replace hbw := hbw.trans (hv1.mono hbw.size)
              replace hbb := hbb.trans (hv1.mono hbb.size)
              replace hb1 := hb1.trans (hv1.mono hb1.size)
              clear hK K hv1
              try simp only [Act.put, List.setIfInBounds_toArray, List.set_cons_zero, List.set_cons_succ]
              have S7 := stT_row rowW h7 rfl (digN_len (s2n s)) (digN_one _)
              refine wb_one (i := 7) (by simp only [List.getElem?_toArray, List.getElem?_cons_succ, List.getElem?_cons_zero] <;> rfl) (by kernel_rfl) (by rfl) (fun K hK => ?_)
              go_simp
              refine hK _ _ (fun p hp => setRow_other _ _ _ _ (by have := List.mem_singleton.1 hp; omega)) ?_
              clear hK K S7
              replace h8 := gbo_setRow h8 h7 (n78.symm) (digN (s2n s)).toArray
              replace hown := own_setRow hown h7 (fun e => (by have := hob _ e; omega)) (digN (s2n s)).toArray
              replace hbw := below_row hbw (Nat.le_trans hzb hB7) (digN (s2n s)).toArray
              replace hb1 := below_row hb1 (Nat.le_trans hzb1 hB7) (digN (s2n s)).toArray
              replace h7 := h7.row (digN (s2n s))
              try simp only [Act.put, List.setIfInBounds_toArray, List.set_cons_zero, List.set_cons_succ]
              have S8 := stT_row rowW h8 rfl (digN_len (topN s)) (digN_one _)
              refine wb_one (i := 8) (by simp only [List.getElem?_toArray, List.getElem?_cons_succ, List.getElem?_cons_zero] <;> rfl) (by kernel_rfl) (by rfl) (fun K hK => ?_)
              go_simp
              refine hK _ _ (fun p hp => setRow_other _ _ _ _ (by have := List.mem_singleton.1 hp; omega)) ?_
              clear hK K S8
              replace h7 := gbo_setRow h7 h8 (n78) (digN (topN s)).toArray
              replace hown := own_setRow hown h8 (fun e => (by have := hob _ e; omega)) (digN (topN s)).toArray
              replace hbw := below_row hbw (Nat.le_trans hzb hB8) (digN (topN s)).toArray
              replace hb1 := below_row hb1 (Nat.le_trans hzb1 hB8) (digN (topN s)).toArray
              replace h8 := h8.row (digN (topN s))
              try simp only [Act.put, List.setIfInBounds_toArray, List.set_cons_zero, List.set_cons_succ]
              refine wb_done (by kernel_rfl) ?_ _
              skip
              go_wp2_with fail
              go_meet
              exact ⟨_, _, rfl, rfl, h7, h8, hown, hbw, hb1, hB7, hB8, n78⟩
          · go_simp
            have hzz := hbb.size
            refine hK _ _ (Kb.gb (World.grownBy_alloc _ _ none) (by intro q hq; rw [List.mem_singleton.1 hq]; exact ⟨by omega, by simp⟩)) ?_
            clear hzz
            have hB8 := hbb.size
            have n78 := Ne.symm (Nat.ne_of_lt (Blk.lt h7))
            refine wb_new (cs := [.int .i64 0, .int .i64 0, .int .i64 0, .int .i64 0, .int .i64 0, .int .i64 0, .int .i64 0, .int .i64 0, .int .i64 0]) (t := 90) (fun v23 hv1 h8 hz23 => ?_)
            replace h7 := h7.below hv1
            replace hown := hown.below hv1
            replace hbw := hbw.trans (hv1.mono hbw.size)
            replace hbb := hbb.trans (hv1.mono hbb.size)
            replace hb1 := hb1.trans (hv1.mono hb1.size)
            clear hK K hv1 hz23
            try simp only [Act.put, List.setIfInBounds_toArray, List.set_cons_zero, List.set_cons_succ]
            refine wb_one (i := 2) (by simp only [List.getElem?_toArray, List.getElem?_cons_succ, List.getElem?_cons_zero] <;> rfl) (by kernel_rfl) (by rfl) (fun K hK => ?_)
            go_simp
            refine (HO _).out.mono ?_
            rintro e v24 ⟨rfl, hv1⟩
            have hzz := hbb.size
            refine hK _ _ (Kb.below hv1 (by intro q hq; rw [List.mem_singleton.1 hq]; omega)) ?_
            clear hzz
            replace h7 := h7.below hv1
            replace h8 := h8.below hv1
            replace hown := hown.below hv1
            replace hbw := hbw.trans (hv1.mono hbw.size)
            replace hbb := hbb.trans (hv1.mono hbb.size)
            replace hb1 := hb1.trans (hv1.mono hb1.size)
            clear hK K hv1
            try simp only [Act.put, List.setIfInBounds_toArray, List.set_cons_zero, List.set_cons_succ]
            refine wb_one (i := 4) (by simp only [List.getElem?_toArray, List.getElem?_cons_succ, List.getElem?_cons_zero] <;> rfl) (by kernel_rfl) (by rfl) (fun K hK => ?_)
            go_simp
            refine (HL _).out.mono ?_
            rintro e v25 ⟨rfl, hv1⟩
            have hzz := hbb.size
            refine hK _ _ (Kb.below hv1 (by intro q hq; rw [List.mem_singleton.1 hq]; omega)) ?_
            clear hzz
            replace h7 := h7.below hv1
            replace h8 := h8.below hv1
            replace hown := hown.below hv1
            replace hbw := hbw.trans (hv1.mono hbw.size)
            replace hbb := hbb.trans (hv1.mono hbb.size)
            replace hb1 := hb1.trans (hv1.mono hb1.size)
            clear hK K hv1
            try simp only [Act.put, List.setIfInBounds_toArray, List.set_cons_zero, List.set_cons_succ]
            have S7 := stT_row rowW h7 rfl (digN_len (s2n s)) (digN_one _)
            refine wb_one (i := 7) (by simp only [List.getElem?_toArray, List.getElem?_cons_succ, List.getElem?_cons_zero] <;> rfl) (by kernel_rfl) (by rfl) (fun K hK => ?_)
            go_simp
            refine hK _ _ (fun p hp => setRow_other _ _ _ _ (by have := List.mem_singleton.1 hp; omega)) ?_
            clear hK K S7
            replace h8 := gbo_setRow h8 h7 (n78.symm) (digN (s2n s)).toArray
            replace hown := own_setRow hown h7 (fun e => (by have := hob _ e; omega)) (digN (s2n s)).toArray
            replace hbw := below_row hbw (Nat.le_trans hzb hB7) (digN (s2n s)).toArray
            replace hb1 := below_row hb1 (Nat.le_trans hzb1 hB7) (digN (s2n s)).toArray
            replace h7 := h7.row (digN (s2n s))
            try simp only [Act.put, List.setIfInBounds_toArray, List.set_cons_zero, List.set_cons_succ]
            have S8 := stT_row rowW h8 rfl (digN_len (topN s)) (digN_one _)
            refine wb_one (i := 8) (by simp only [List.getElem?_toArray, List.getElem?_cons_succ, List.getElem?_cons_zero] <;> rfl) (by kernel_rfl) (by rfl) (fun K hK => ?_)
            go_simp
            refine hK _ _ (fun p hp => setRow_other _ _ _ _ (by have := List.mem_singleton.1 hp; omega)) ?_
            clear hK K S8
            replace h7 := gbo_setRow h7 h8 (n78) (digN (topN s)).toArray
            replace hown := own_setRow hown h8 (fun e => (by have := hob _ e; omega)) (digN (topN s)).toArray
            replace hbw := below_row hbw (Nat.le_trans hzb hB8) (digN (topN s)).toArray
            replace hb1 := below_row hb1 (Nat.le_trans hzb1 hB8) (digN (topN s)).toArray
            replace h8 := h8.row (digN (topN s))
            try simp only [Act.put, List.setIfInBounds_toArray, List.set_cons_zero, List.set_cons_succ]
            refine wb_done (by kernel_rfl) ?_ _
            skip
            go_wp2_with fail
            go_meet
            exact ⟨_, _, rfl, rfl, h7, h8, hown, hbw, hb1, hB7, hB8, n78⟩
        · go_simp
          have hzz := hbb.size
          refine hK _ _ (Kb.gb (World.grownBy_alloc _ _ none) (by intro q hq; rw [List.mem_singleton.1 hq]; exact ⟨by omega, by simp⟩)) ?_
          clear hzz
          have hB8 := hbb.size
          refine wb_new (cs := [.int .i64 0, .int .i64 0, .int .i64 0, .int .i64 0, .int .i64 0, .int .i64 0, .int .i64 0, .int .i64 0, .int .i64 0]) (t := 90) (fun v26 hv1 h8 hz26 => ?_)
          replace hown := hown.below hv1
          replace hbw := hbw.trans (hv1.mono hbw.size)
          replace hbb := hbb.trans (hv1.mono hbb.size)
          replace hb1 := hb1.trans (hv1.mono hb1.size)
          clear hK K hv1 hz26
          try simp only [Act.put, List.setIfInBounds_toArray, List.set_cons_zero, List.set_cons_succ]
          refine wb_two (i := 2) (k := 5) (by simp only [List.getElem?_toArray, List.getElem?_cons_succ, List.getElem?_cons_zero] <;> rfl) (by simp only [List.getElem?_toArray, List.getElem?_cons_succ, List.getElem?_cons_zero] <;> rfl) (by kernel_rfl) (by rfl) (by rfl) (fun K hK => ?_) (fun K hK => ?_)
          · go_simp
            refine (HO _).out.mono ?_
            rintro e v27 ⟨rfl, hv1⟩
            have hzz := hbb.size
            refine hK _ _ (Kb.below hv1 (by intro q hq; rw [List.mem_singleton.1 hq]; omega)) ?_
            clear hzz
            replace h8 := h8.below hv1
            replace hown := hown.below hv1
            replace hbw := hbw.trans (hv1.mono hbw.size)
            replace hbb := hbb.trans (hv1.mono hbb.size)
            replace hb1 := hb1.trans (hv1.mono hb1.size)
            clear hK K hv1
            try simp only [Act.put, List.setIfInBounds_toArray, List.set_cons_zero, List.set_cons_succ]
            refine wb_two (i := 4) (k := 5) (by simp only [List.getElem?_toArray, List.getElem?_cons_succ, List.getElem?_cons_zero] <;> rfl) (by simp only [List.getElem?_toArray, List.getElem?_cons_succ, List.getElem?_cons_zero] <;> rfl) (by kernel_rfl) (by rfl) (by rfl) (fun K hK => ?_) (fun K hK => ?_)
            · go_simp
              refine (HL _).out.mono ?_
              rintro e v28 ⟨rfl, hv1⟩
              have hzz := hbb.size
              refine hK _ _ (Kb.below hv1 (by intro q hq; rw [List.mem_singleton.1 hq]; omega)) ?_
              clear hzz
              replace h8 := h8.below hv1
              replace hown := hown.below hv1
              replace hbw := hbw.trans (hv1.mono hbw.size)
              replace hbb := hbb.trans (hv1.mono hbb.size)
              replace hb1 := hb1.trans (hv1.mono hb1.size)
              clear hK K hv1
              try simp only [Act.put, List.setIfInBounds_toArray, List.set_cons_zero, List.set_cons_succ]
              refine wb_one (i := 5) (by simp only [List.getElem?_toArray, List.getElem?_cons_succ, List.getElem?_cons_zero] <;> rfl) (by kernel_rfl) (by rfl) (fun K hK => ?_)
              go_simp
              have hzz := hbb.size
              refine hK _ _ (Kb.gb (World.grownBy_alloc _ _ none) (by intro q hq; rw [List.mem_singleton.1 hq]; exact ⟨by omega, by simp⟩)) ?_
              clear hzz
              have hB7 := hbb.size
              have n78 := Nat.ne_of_lt (Blk.lt h8)
              refine wb_new (cs := [.int .i64 0, .int .i64 0, .int .i64 0, .int .i64 0, .int .i64 0, .int .i64 0, .int .i64 0, .int .i64 0, .int .i64 0]) (t := 90) (fun v29 hv1 h7 hz29 => ?_)
              replace h8 := h8.below hv1
              replace hown := hown.below hv1
              replace hbw := hbw.trans (hv1.mono hbw.size)
              replace hbb := hbb.trans (hv1.mono hbb.size)
              replace hb1 := hb1.trans (hv1.mono hb1.size)
              clear hK K hv1 hz29
              try simp only [Act.put, List.setIfInBounds_toArray, List.set_cons_zero, List.set_cons_succ]
              have S7 := stT_row rowW h7 rfl (digN_len (s2n s)) (digN_one _)
              refine wb_one (i := 7) (by simp only [List.getElem?_toArray, List.getElem?_cons_succ, List.getElem?_cons_zero] <;> rfl) (by kernel_rfl) (by rfl) (fun K hK => ?_)
              go_simp
              refine hK _ _ (fun p hp => setRow_other _ _ _ _ (by have := List.mem_singleton.1 hp; omega)) ?_
              clear hK K S7
              replace h8 := gbo_setRow h8 h7 (n78.symm) (digN (s2n s)).toArray
              replace hown := own_setRow hown h7 (fun e => (by have := hob _ e; omega)) (digN (s2n s)).toArray
              replace hbw := below_row hbw (Nat.le_trans hzb hB7) (digN (s2n s)).toArray
              replace hb1 := below_row hb1 (Nat.le_trans hzb1 hB7) (digN (s2n s)).toArray
              replace h7 := h7.row (digN (s2n s))
              try simp only [Act.put, List.setIfInBounds_toArray, List.set_cons_zero, List.set_cons_succ]
              have S8 := stT_row rowW h8 rfl (digN_len (topN s)) (digN_one _)
              refine wb_one (i := 8) (by simp only [List.getElem?_toArray, List.getElem?_cons_succ, List.getElem?_cons_zero] <;> rfl) (by kernel_rfl) (by rfl) (fun K hK => ?_)
              go_simp
              refine hK _ _ (fun p hp => setRow_other _ _ _ _ (by have := List.mem_singleton.1 hp; omega)) ?_
              clear hK K S8
              replace h7 := gbo_setRow h7 h8 (n78) (digN (topN s)).toArray
              replace hown := own_setRow hown h8 (fun e => (by have := hob _ e; omega)) (digN (topN s)).toArray
              replace hbw := below_row hbw (Nat.le_trans hzb hB8) (digN (topN s)).toArray
              replace hb1 := below_row hb1 (Nat.le_trans hzb1 hB8) (digN (topN s)).toArray
              replace h8 := h8.row (digN (topN s))
              try simp only [Act.put, List.setIfInBounds_toArray, List.set_cons_zero, List.set_cons_succ]
              refine wb_done (by kernel_rfl) ?_ _
              skip
              go_wp2_with fail
              go_meet
              exact ⟨_, _, rfl, rfl, h7, h8, hown, hbw, hb1, hB7, hB8, n78⟩
            · go_simp
              have hzz := hbb.size
              refine hK _ _ (Kb.gb (World.grownBy_alloc _ _ none) (by intro q hq; rw [List.mem_singleton.1 hq]; exact ⟨by omega, by simp⟩)) ?_
              clear hzz
              have hB7 := hbb.size
              have n78 := Nat.ne_of_lt (Blk.lt h8)
              refine wb_new (cs := [.int .i64 0, .int .i64 0, .int .i64 0, .int .i64 0, .int .i64 0, .int .i64 0, .int .i64 0, .int .i64 0, .int .i64 0]) (t := 90) (fun v30 hv1 h7 hz30 => ?_)
              replace h8 := h8.below hv1
              replace hown := hown.below hv1
              replace hbw := hbw.trans (hv1.mono hbw.size)
              replace hbb := hbb.trans (hv1.mono hbb.size)
              replace hb1 := hb1.trans (hv1.mono hb1.size)
              clear hK K hv1 hz30
              try simp only [Act.put, List.setIfInBounds_toArray, List.set_cons_zero, List.set_cons_succ]
              refine wb_one (i := 4) (by simp only [List.getElem?_toArray, List.getElem?_cons_succ, List.getElem?_cons_zero] <;> rfl) (by kernel_rfl) (by rfl) (fun K hK => ?_)
              go_simp
              refine (HL _).out.mono ?_
              rintro e v31 ⟨rfl, hv1⟩
              have hzz := hbb.size
              refine hK _ _ (Kb.below hv1 (by intro q hq; rw [List.mem_singleton.1 hq]; omega)) ?_
              clear hzz
              replace h8 := h8.below hv1
              replace h7 := h7.below hv1
              replace hown := hown.below hv1
              replace hbw := hbw.trans (hv1.mono hbw.size)
              replace hbb := hbb.trans (hv1.mono hbb.size)
              replace hb1 := hb1.trans (hv1.mono hb1.size)
              clear hK K hv1
              try simp only [Act.put, List.setIfInBounds_toArray, List.set_cons_zero, List.set_cons_succ]
              have S7 := stT_row rowW h7 rfl (digN_len (s2n s)) (digN_one _)
              refine wb_one (i := 7) (by simp only [List.getElem?_toArray, List.getElem?_cons_succ, List.getElem?_cons_zero] <;> rfl) (by kernel_rfl) (by rfl) (fun K hK => ?_)
              go_simp
              refine hK _ _ (fun p hp => setRow_other _ _ _ _ (by have := List.mem_singleton.1 hp; omega)) ?_
              clear hK K S7
              replace h8 := gbo_setRow h8 h7 (n78.symm) (digN (s2n s)).toArray
              replace hown := own_setRow hown h7 (fun e => (by have := hob _ e; omega)) (digN (s2n s)).toArray
              replace hbw := below_row hbw (Nat.le_trans hzb hB7) (digN (s2n s)).toArray
              replace hb1 := below_row hb1 (Nat.le_trans hzb1 hB7) (digN (s2n s)).toArray
              replace h7 := h7.row (digN (s2n s))
              try simp only [Act.put, List.setIfInBounds_toArray, List.set_cons_zero, List.set_cons_succ]
              have S8 := stT_row rowW h8 rfl (digN_len (topN s)) (digN_one _)
              refine wb_one (i := 8) (by simp only [List.getElem?_toArray, List.getElem?_cons_succ, List.getElem?_cons_zero] <;> rfl) (by kernel_rfl) (by rfl) (fun K hK => ?_)
              go_simp
              refine hK _ _ (fun p hp => setRow_other _ _ _ _ (by have := List.mem_singleton.1 hp; omega)) ?_
              clear hK K S8
              replace h7 := gbo_setRow h7 h8 (n78) (digN (topN s)).toArray
              replace hown := own_setRow hown h8 (fun e => (by have := hob _ e; omega)) (digN (topN s)).toArray
              replace hbw := below_row hbw (Nat.le_trans hzb hB8) (digN (topN s)).toArray
              replace hb1 := below_row hb1 (Nat.le_trans hzb1 hB8) (digN (topN s)).toArray
              replace h8 := h8.row (digN (topN s))
              try simp only [Act.put, List.setIfInBounds_toArray, List.set_cons_zero, List.set_cons_succ]
              refine wb_done (by kernel_rfl) ?_ _
              skip
              go_wp2_with fail
              go_meet
              exact ⟨_, _, rfl, rfl, h7, h8, hown, hbw, hb1, hB7, hB8, n78⟩
          · go_simp
            have hzz := hbb.size
            refine hK _ _ (Kb.gb (World.grownBy_alloc _ _ none) (by intro q hq; rw [List.mem_singleton.1 hq]; exact ⟨by omega, by simp⟩)) ?_
            clear hzz
            have hB7 := hbb.size
            have n78 := Nat.ne_of_lt (Blk.lt h8)
            refine wb_new (cs := [.int .i64 0, .int .i64 0, .int .i64 0, .int .i64 0, .int .i64 0, .int .i64 0, .int .i64 0, .int .i64 0, .int .i64 0]) (t := 90) (fun v32 hv1 h7 hz32 => ?_)
            replace h8 := h8.below hv1
            replace hown := hown.below hv1
            replace hbw := hbw.trans (hv1.mono hbw.size)
            replace hbb := hbb.trans (hv1.mono hbb.size)
            replace hb1 := hb1.trans (hv1.mono hb1.size)
            clear hK K hv1 hz32
            try simp only [Act.put, List.setIfInBounds_toArray, List.set_cons_zero, List.set_cons_succ]
            refine wb_one (i := 2) (by simp only [List.getElem?_toArray, List.getElem?_cons_succ, List.getElem?_cons_zero] <;> rfl) (by kernel_rfl) (by rfl) (fun K hK => ?_)
            go_simp
            refine (HO _).out.mono ?_
            rintro e v33 ⟨rfl, hv1⟩
            have hzz := hbb.size
            refine hK _ _ (Kb.below hv1 (by intro q hq; rw [List.mem_singleton.1 hq]; omega)) ?_
            clear hzz
            replace h8 := h8.below hv1
            replace h7 := h7.below hv1
            replace hown := hown.below hv1
            replace hbw := hbw.trans (hv1.mono hbw.size)
            replace hbb := hbb.trans (hv1.mono hbb.size)
            replace hb1 := hb1.trans (hv1.mono hb1.size)
            clear hK K hv1
            try simp only [Act.put, List.setIfInBounds_toArray, List.set_cons_zero, List.set_cons_succ]
            refine wb_one (i := 4) (by simp only [List.getElem?_toArray, List.getElem?_cons_succ, List.getElem?_cons_zero] <;> rfl) (by kernel_rfl) (by rfl) (fun K hK => ?_)
            go_simp
            refine (HL _).out.mono ?_
            rintro e v34 ⟨rfl, hv1⟩
            have hzz := hbb.size
            refine hK _ _ (Kb.below hv1 (by intro q hq; rw [List.mem_singleton.1 hq]; omega)) ?_
            clear hzz
            replace h8 := h8.below hv1
            replace h7 := h7.below hv1
            replace hown := hown.below hv1
            replace hbw := hbw.trans (hv1.mono hbw.size)
            replace hbb := hbb.trans (hv1.mono hbb.size)
            replace hb1 := hb1.trans (hv1.mono hb1.size)
            clear hK K hv1
            try simp only [Act.put, List.setIfInBounds_toArray, List.set_cons_zero, List.set_cons_succ]
            have S7 := stT_row rowW h7 rfl (digN_len (s2n s)) (digN_one _)
            refine wb_one (i := 7) (by simp only [List.getElem?_toArray, List.getElem?_cons_succ, List.getElem?_cons_zero] <;> rfl) (by kernel_rfl) (by rfl) (fun K hK => ?_)
            go_simp
            refine hK _ _ (fun p hp => setRow_other _ _ _ _ (by have := List.mem_singleton.1 hp; omega)) ?_
            clear hK K S7
            replace h8 := gbo_setRow h8 h7 (n78.symm) (digN (s2n s)).toArray
            replace hown := own_setRow hown h7 (fun e => (by have := hob _ e; omega)) (digN (s2n s)).toArray
            replace hbw := below_row hbw (Nat.le_trans hzb hB7) (digN (s2n s)).toArray
            replace hb1 := below_row hb1 (Nat.le_trans hzb1 hB7) (digN (s2n s)).toArray
            replace h7 := h7.row (digN (s2n s))
            try simp only [Act.put, List.setIfInBounds_toArray, List.set_cons_zero, List.set_cons_succ]
            have S8 := stT_row rowW h8 rfl (digN_len (topN s)) (digN_one _)
            refine wb_one (i := 8) (by simp only [List.getElem?_toArray, List.getElem?_cons_succ, List.getElem?_cons_zero] <;> rfl) (by kernel_rfl) (by rfl) (fun K hK => ?_)
            go_simp
            refine hK _ _ (fun p hp => setRow_other _ _ _ _ (by have := List.mem_singleton.1 hp; omega)) ?_
            clear hK K S8
            replace h7 := gbo_setRow h7 h8 (n78) (digN (topN s)).toArray
            replace hown := own_setRow hown h8 (fun e => (by have := hob _ e; omega)) (digN (topN s)).toArray
            replace hbw := below_row hbw (Nat.le_trans hzb hB8) (digN (topN s)).toArray
            replace hb1 := below_row hb1 (Nat.le_trans hzb1 hB8) (digN (topN s)).toArray
            replace h8 := h8.row (digN (topN s))
            try simp only [Act.put, List.setIfInBounds_toArray, List.set_cons_zero, List.set_cons_succ]
            refine wb_done (by kernel_rfl) ?_ _
            skip
            go_wp2_with fail
            go_meet
            exact ⟨_, _, rfl, rfl, h7, h8, hown, hbw, hb1, hB7, hB8, n78⟩
      case rest =>
      clear hown hbw hb1 hbb h6 HO HL
      obtain ⟨p7, p8, rfl, rfl, h7, h8, hown, hbw, hb1, hp7, hp8, n78⟩ := hcut
      have hnb : Hid (u3.ownBlock ≠ some p7 ∧ u3.ownBlock ≠ some p8) := Lib.hid ⟨fun e => by have := hob _ e; omega, fun e => by have := hob _ e; omega⟩
      have hw7 := Lib.hid (show w.heap.size ≤ p7 ∧ w1.heap.size ≤ p7 from ⟨by omega, by omega⟩)
      replace n78 := Lib.hid n78
      clear hob hp7 hp8 hwb2 hzb hzb1 hsb1 hsw hcell
      go_wp2_with fail
      go_loopw [3, 9, 28] (fun v3 v9 v28 wr => ∃ (j a : Nat) (dn : Bool) (out : List (Ad × Ad)), j ≤ n ∧ v28 = .int .i64 j ∧ v9 = .bool dn ∧ Hid (GapI zs s j a dn out N) ∧ OwnE eSp 103 (w.heap.size + 1) wr v3 out ∧ Hid (v3.ownBlock ≠ some p7 ∧ v3.ownBlock ≠ some p8) ∧ Blk wr p7 (digN a) 90 ∧ Blk wr p8 (digN (topN s)) 90 ∧ Below w.heap.size w wr ∧ Below w1.heap.size w1 wr) (fun _ _ v28 _ => n - (intOf v28).toNat)
      case atStart => exact ⟨0, s2n s, false, out, by omega, rfl, rfl, hG, hown, hnb, h7, h8, hbw, hb1⟩
      case round =>
        clear hown hnb h7 h8 hbw hb1 hG
        obtain ⟨j, a, dn, out, hj, rfl, rfl, hG, hown, hnb, h7, h8, hbw, hb1⟩ := hrel
        by_cases hjn : j < n
        · obtain ⟨x, hx⟩ : ∃ x, zs[j]? = some x := ⟨zs[j]'(by have := hnl.out; omega), List.getElem?_eq_getElem _⟩
          obtain ⟨g0, off, rfl, _, _⟩ := hS.out.at' hjn
          have hld := SlE.ld rowSp (hS.out.below hbw) hx
          replace hld : (ldT 103 (.pointer (some ⟨g0, off + j * 18, none⟩))).run Tryz.prog wr = .ok (.value (spA x)) wr := hld
          have hxR := hR.out x (List.mem_of_getElem? hx)
          have hjn' : (j : Int) < n := by omega
          have hsw := hbw.size
          have hsb1 := hb1.size
          have S1 := stT_new rowSp (te := 103) wr wr.heap.size rfl [.int .i64 0, .int .i64 0, .int .i64 0, .int .i64 0, .int .i64 0, .int .i64 0, .int .i64 0, .int .i64 0, .int .i64 0, .int .i64 0, .int .i64 0, .int .i64 0, .int .i64 0, .int .i64 0, .int .i64 0, .int .i64 0, .int .i64 0, .int .i64 0] (spC x) rfl rfl (spC_one x)
          obtain ⟨p11, hp11⟩ : ∃ p, p = wr.heap.size := ⟨_, rfl⟩
          have hC := Blk.new wr (spC x) 103
          have hnC0 := own_new hown
          have hq7 := h7.lt
          have hq8 := h8.lt
          replace h7 := Blk.below h7 ((Below.refl _ _).alloc (Nat.le_refl _) (.cells (spC x).toArray 103))
          replace h8 := Blk.below h8 ((Below.refl _ _).alloc (Nat.le_refl _) (.cells (spC x).toArray 103))
          replace hown := hown.alloc' (.cells (spC x).toArray 103)
          replace hbw := hbw.alloc hsw (.cells (spC x).toArray 103)
          replace hb1 := hb1.alloc hsb1 (.cells (spC x).toArray 103)
          have hskip := Lib.hid (fun e => hG.out.skip hR.out hx e)
          have htake := Lib.hid (fun (e : dn = false) hs => (e ▸ hG.out : GapI zs s j a false out N).take hR.out hp.out hx hs)
          have hol := Lib.hid (show out.length ≤ 10000 by have := hG.out.len; omega)
          have hat := Lib.hid (fun (e : dn = false) => (show s2n s ≤ a ∧ a ≤ topN s from ⟨hG.out.base, hG.out.more e⟩))
          have hfr := Lib.hid (fun hs => hG.out.front j x (Nat.le_refl _) hx hs)
          have hxd := Lib.hid hxR.1.dig_six
          have q1 := hC.cell (i := 8) (v := .int .i64 (dig x.1.n 8 : Nat)) rfl
          have q2 := h7.cell (i := 8) (v := .int .i64 (dig a 8 : Nat)) rfl
          replace hx := Lib.hid hx
          replace hxR := Lib.hid hxR
          clear hG
          go_upto_region 11 with fail
          clear S1 hld
          rw [← hp11] at hC q1 hnC0 ⊢
          generalize World.alloc _ (.cells (spC x).toArray 103) = W at *
          replace hnC0 : Hid (u3.ownBlock ≠ some p11) := Lib.hid hnC0
          have hnC := hnC0
          have n711 : p7 ≠ p11 := by omega
          replace hp11 := Lib.hid hp11
          obtain ⟨D1, hD1⟩ : ∃ D : Int, D = ((dig x.1.n 8 : Nat) : Int) := ⟨_, rfl⟩
          obtain ⟨D2, hD2⟩ : ∃ D : Int, D = ((dig a 8 : Nat) : Int) := ⟨_, rfl⟩
          rw [← hD1] at q1 hxd
          rw [← hD2] at q2
          have hD : dn = false → D2 = b2i s := fun e => by
            obtain ⟨r1, r2, r3⟩ := adOf_fam (hat.out e).1 (hat.out e).2
            have := r1.dig_six
            rw [r2, r3] at this
            rw [hD2]; exact this
          by_cases hgo : dn = false ∧ x.1.s = s
          · obtain ⟨hdn, hxs⟩ := hgo
            subst hdn
            have e12 : D1 = D2 := by rw [hxd.out, hD rfl, hxs]
            have hGt := Lib.hid (htake.out rfl hxs)
            have ha1 := hfr.out hxs
            have ha2 := hat.out rfl
            have hxf := rg_fam hxR.out
            rw [hxs] at hxf
            have hxl := hxR.out.2.2.2
            have htl := topN_lt s
            clear hskip htake hat hfr hD hD1 hD2 hxd
            subst e12
            have HCm := fun w' => Lib.hid (wcmp_d a x.1.n w' (by omega) (by omega))
            have hcl := cmpN_lt a x.1.n
            obtain ⟨c, hc⟩ : ∃ c, c = cmpN a x.1.n := ⟨_, rfl⟩
            rw [← hc] at HCm hcl
            clear hc
            have heq := Lib.hid (eqN_iff (A := x.2.n) (B := topN s) (by omega) (by omega))
            have HP2 := fun w' => Lib.hid (plus_any x.2.n (x.2.n + 1) 1 w' (by decide) (by decide) (by omega))
            have hGt2 := Lib.hid (show a < x.1.n → GapI zs s (j + 1) (x.2.n + 1) (eqN x.2.n (topN s)) (out ++ [(adOf a, adOf (x.1.n - 1))]) N by
              intro h; have := hGt.out; rw [if_pos h, ← heq.out] at this; exact this)
            have hGt3 := Lib.hid (show ¬ a < x.1.n → GapI zs s (j + 1) (x.2.n + 1) (eqN x.2.n (topN s)) out N by
              intro h; have := hGt.out; rw [if_neg h, ← heq.out] at this; exact this)
            have hsp0 := Lib.hid (fun (h : a < x.1.n) => (adOf_rg (s := s) (a := a) (b := x.1.n - 1) ha2.1 (by omega) (by omega)).2)
            clear hGt heq ha2 hxf hxl htl hxs
            have k7 := h7.ld rowW rfl
            have kx := hC.ldAt rowW 0 (digN x.1.n) (digN x.2.n) rfl rfl
            go_wp2_with fail
            refine (HCm _).out.mono ?_
            rintro e w2 ⟨rfl, hg'⟩
            have hv1 := hg'.below
            replace hC := hC.below hv1
            replace h7 := h7.below hv1
            replace h8 := h8.below hv1
            replace hown := hown.below hv1
            replace hbw := hbw.trans (hv1.mono hbw.size)
            replace hb1 := hb1.trans (hv1.mono hb1.size)
            clear hv1 hg' HCm k7 kx q1 q2
            by_cases hax : a < x.1.n
            · have HV : c < 0 := by rw [decide_eq_true hax] at hcl; exact of_decide_eq_true hcl
              have hI2 := hGt2.out hax
              have hsp0' := hsp0.out hax
              obtain ⟨y1, hy1⟩ : ∃ y, y = x.1.n - 1 := ⟨_, rfl⟩
              rw [← hy1] at hI2 hsp0'
              have HP := fun w' => Lib.hid (plus_any x.1.n y1 (-1) w' (by decide) (by decide) (by omega))
              replace hI2 := Lib.hid hI2
              have hsp := Lib.hid (show digN (adOf a).n ++ digN (adOf y1).n = digN a ++ digN y1 by rw [hsp0'.1, hsp0'.2])
              clear hcl hGt2 hGt3 hsp0 hax ha1 hsp0' hy1
              go_upto_region 13 with fail
              refine wb_begin ([p7, p11]) [] (by kernel_rfl) (fun u0 hb0' hz0' => ?_)
              replace hC := hC.below hb0'
              replace h7 := h7.below hb0'
              replace h8 := h8.below hb0'
              replace hown := hown.below hb0'
              replace hbw := hbw.trans (hb0'.mono hbw.size)
              replace hb1 := hb1.trans (hb0'.mono hb1.size)
              clear hb0' hz0'
              refine wb_pure (i := 0) (d := some 46) (v := ?_) (by simp only [List.getElem?_toArray, List.getElem?_cons_succ, List.getElem?_cons_zero] <;> rfl) (by rfl) (by kernel_rfl) (by kernel_rfl) (by kernel_rfl) (fun _ _ _ h => h) (by rfl) ?_ ?_
              rotate_left
              · ((intro u); go_simp; try with_reducible rfl)
              try simp only [Act.put, List.setIfInBounds_toArray, List.set_cons_zero, List.set_cons_succ]
              refine wb_take (i := 1) (d := some 47) (v := ?_) (by simp only [List.getElem?_toArray, List.getElem?_cons_succ, List.getElem?_cons_zero] <;> rfl) (by rfl) (by kernel_rfl) (by kernel_rfl) (by kernel_rfl) (fun _ _ _ h => h) (by rfl) (by kernel_rfl) ?_ ?_
              rotate_left
              · ((intro u hu); have kc := hC.kb hu (by simp); have kd := h7.kb hu (by simp); have k1 := kc.ldAt rowW 0 (digN x.1.n) (digN x.2.n) rfl rfl; have k2 := kd.ld rowW rfl; clear kc kd; go_simp; try with_reducible rfl)
              try simp only [Act.put, List.setIfInBounds_toArray, List.set_cons_zero, List.set_cons_succ]
              refine wb_pure (i := 2) (d := some 48) (v := ?_) (by simp only [List.getElem?_toArray, List.getElem?_cons_succ, List.getElem?_cons_zero] <;> rfl) (by rfl) (by kernel_rfl) (by kernel_rfl) (by kernel_rfl) (fun _ _ _ h => h) (by rfl) ?_ ?_
              rotate_left
              · ((intro u); go_simp; try with_reducible rfl)
              try simp only [Act.put, List.setIfInBounds_toArray, List.set_cons_zero, List.set_cons_succ]
              refine wb_take (i := 3) (d := some 49) (v := ?_) (by simp only [List.getElem?_toArray, List.getElem?_cons_succ, List.getElem?_cons_zero] <;> rfl) (by rfl) (by kernel_rfl) (by kernel_rfl) (by kernel_rfl) (fun _ _ _ h => h) (by rfl) (by kernel_rfl) ?_ ?_
              rotate_left
              · ((intro u hu); have kc := hC.kb hu (by simp); have kd := h7.kb hu (by simp); have k1 := kc.ldAt rowW 0 (digN x.1.n) (digN x.2.n) rfl rfl; have k2 := kd.ld rowW rfl; clear kc kd; go_simp; try with_reducible rfl)
              try simp only [Act.put, List.setIfInBounds_toArray, List.set_cons_zero, List.set_cons_succ]
              refine wb_one (i := 4) (by simp only [List.getElem?_toArray, List.getElem?_cons_succ, List.getElem?_cons_zero] <;> rfl) (by kernel_rfl) (by rfl) (fun K hK => ?_)
              go_simp
              refine (HP _).out.mono ?_
              rintro e u1 ⟨rfl, hv1⟩
              refine hK _ _ (Kb.below hv1 (by intro q hq; simp only [List.mem_cons, List.not_mem_nil, or_false] at hq; rcases hq with rfl | rfl <;> first | exact h7.lt | exact hC.lt)) ?_
              replace hC := hC.below hv1
              replace h7 := h7.below hv1
              replace h8 := h8.below hv1
              replace hown := hown.below hv1
              replace hbw := hbw.trans (hv1.mono hbw.size)
              replace hb1 := hb1.trans (hv1.mono hb1.size)
              clear hK K hv1
              try simp only [Act.put, List.setIfInBounds_toArray, List.set_cons_zero, List.set_cons_succ]
              refine wb_pure (i := 5) (d := some 51) (v := ?_) (by simp only [List.getElem?_toArray, List.getElem?_cons_succ, List.getElem?_cons_zero] <;> rfl) (by rfl) (by kernel_rfl) (by kernel_rfl) (by kernel_rfl) (fun _ _ _ h => h) (by rfl) ?_ ?_
              rotate_left
              · ((intro u); go_simp; try with_reducible rfl)
              try simp only [Act.put, List.setIfInBounds_toArray, List.set_cons_zero, List.set_cons_succ]
              refine wb_one (i := 6) (by simp only [List.getElem?_toArray, List.getElem?_cons_succ, List.getElem?_cons_zero] <;> rfl) (by kernel_rfl) (by rfl) (fun K hK => ?_)
              go_simp
              refine hK _ _ (Kb.gb (World.grownBy_alloc _ _ none) (by intro q hq; simp only [List.mem_cons, List.not_mem_nil, or_false] at hq; rcases hq with rfl | rfl <;> first | exact ⟨h7.lt, by simp⟩ | exact ⟨hC.lt, by simp⟩)) ?_
              refine wb_new (cs := digN a ++ digN y1) (t := 103) (fun u3 hv3 hL3 hz3 => ?_)
              replace hC := hC.below hv3
              replace h7 := h7.below hv3
              replace h8 := h8.below hv3
              replace hown := hown.below hv3
              replace hbw := hbw.trans (hv3.mono hbw.size)
              replace hb1 := hb1.trans (hv3.mono hb1.size)
              clear hK K hv3 hz3
              try simp only [Act.put, List.setIfInBounds_toArray, List.set_cons_zero, List.set_cons_succ]
              refine wb_one (i := 7) (by simp only [List.getElem?_toArray, List.getElem?_cons_succ, List.getElem?_cons_zero] <;> rfl) (by kernel_rfl) (by rfl) (fun K hK => ?_)
              refine wp_app tyeSp _ _ rfl (w.heap.size + 1) _ _ [(adOf a, adOf y1)] rfl hown ⟨_, 0, none⟩ 1 1 rfl rfl ?c1 ?c2 ?c3 ?_
              case c1 =>
                intro j u hj
                rw [Enc.cells_single] at hj
                rw [Addr.add_lit, Nat.zero_add]
                rw [show eSp.enc (adOf a, adOf y1) = digN a ++ digN y1 from hsp.out] at hj
                exact hL3.cell hj
              case c2 => have := hol.out; simp only [List.length_singleton]; omega
              case c3 => have := hb1.size; have := hz0.out; omega
              intro v4 x4 hown4 hg4 ho4
              refine hK _ _ (Kb.gb hg4 (by intro q hq; simp only [List.mem_cons, List.not_mem_nil, or_false] at hq; rcases hq with rfl | rfl <;> first | exact ⟨h7.lt, fun e => hnb.out.1 e.symm⟩ | exact ⟨hC.lt, fun e => hnC.out e.symm⟩)) ?_
              have hnb4 := nb_step hnb ho4 h7.lt h8.lt
              have hbw4 : Below w.heap.size w x4 := hbw.grown hg4 hbw.size (fun k h => by have := (hown.lt k h).1; omega)
              have hb14 : Below w1.heap.size w1 x4 := hb1.grown hg4 hb1.size (fun k h => by have := (hown.lt k h).1; have := hz0.out; omega)
              replace h7 := h7.gbo hg4 hnb.out.1
              replace h8 := h8.gbo hg4 hnb.out.2
              replace hC := hC.gbo hg4 hnC.out
              clear hK K hg4 ho4 hown hbw hb1 hL3 hnb hnC
              try simp only [Act.put, List.setIfInBounds_toArray, List.set_cons_zero, List.set_cons_succ]
              refine wb_pure (i := 8) (d := some 3) (v := ?_) (by simp only [List.getElem?_toArray, List.getElem?_cons_succ, List.getElem?_cons_zero] <;> rfl) (by rfl) (by kernel_rfl) (by kernel_rfl) (by kernel_rfl) (fun _ _ _ h => h) (by rfl) ?_ ?_
              rotate_left
              · ((intro u); go_simp; try with_reducible rfl)
              try simp only [Act.put, List.setIfInBounds_toArray, List.set_cons_zero, List.set_cons_succ]
              refine wb_done (by kernel_rfl) ?_ _
              skip
              replace hown := hown4; replace hbw := hbw4; replace hb1 := hb14
              clear hown4 hbw4 hb14
              have k8 := h8.ld rowW rfl
              have k9 := hC.ldAt rowW 9 (digN x.2.n) [] rfl rfl
              go_wp2_with fail
              refine (HP2 _).out.mono ?_
              rintro e w8 ⟨rfl, hv1⟩
              replace h7 := h7.below hv1
              replace h8 := h8.below hv1
              replace hown := hown.below hv1
              replace hbw := hbw.trans (hv1.mono hbw.size)
              replace hb1 := hb1.trans (hv1.mono hb1.size)
              clear hv1 k8 k9 hC HP2
              have S15 := stT_row rowW h7 rfl (digN_len (x.2.n + 1)) (digN_one _)
              replace h8 := gbo_setRow h8 h7 n78.out.symm (digN (x.2.n + 1)).toArray
              replace hown := own_setRow hown h7 hnb4.out.1 (digN (x.2.n + 1)).toArray
              replace hbw := below_row hbw hw7.out.1 (digN (x.2.n + 1)).toArray
              replace hb1 := below_row hb1 hw7.out.2 (digN (x.2.n + 1)).toArray
              replace h7 := h7.row (digN (x.2.n + 1))
              go_wp2_with fail
              go_roundw
              case rel => exact ⟨j + 1, x.2.n + 1, _, out ++ [(adOf a, adOf y1)], by omega, by go_num, rfl, hI2, hown, hnb4, h7, h8, hbw, hb1⟩
              case measure => simp [intOf]; omega

            · have HV : ¬ c < 0 := by rw [decide_eq_false hax] at hcl; exact of_decide_eq_false hcl
              have hI2 := Lib.hid (hGt3.out hax)
              clear hcl hGt2 hGt3 hsp0 hax ha1
              have k8 := h8.ld rowW rfl
              have k9 := hC.ldAt rowW 9 (digN x.2.n) [] rfl rfl
              go_wp2_with fail
              refine (HP2 _).out.mono ?_
              rintro e w8 ⟨rfl, hv1⟩
              replace h7 := h7.below hv1
              replace h8 := h8.below hv1
              replace hown := hown.below hv1
              replace hbw := hbw.trans (hv1.mono hbw.size)
              replace hb1 := hb1.trans (hv1.mono hb1.size)
              clear hv1 k8 k9 hC HP2
              have S15 := stT_row rowW h7 rfl (digN_len (x.2.n + 1)) (digN_one _)
              replace h8 := gbo_setRow h8 h7 n78.out.symm (digN (x.2.n + 1)).toArray
              replace hown := own_setRow hown h7 hnb.out.1 (digN (x.2.n + 1)).toArray
              replace hbw := below_row hbw hw7.out.1 (digN (x.2.n + 1)).toArray
              replace hb1 := below_row hb1 hw7.out.2 (digN (x.2.n + 1)).toArray
              replace h7 := h7.row (digN (x.2.n + 1))
              go_wp2_with fail
              go_roundw
              case rel => exact ⟨j + 1, x.2.n + 1, _, out, by omega, by go_num, rfl, hI2, hown, hnb, h7, h8, hbw, hb1⟩
              case measure => simp [intOf]; omega

          · have hskip2 : Hid (GapI zs s (j + 1) a dn out N) := Lib.hid (hskip.out (by
              by_cases e : x.1.s = s
              · right
                cases dn with
                | true => rfl
                | false => exact absurd ⟨rfl, e⟩ hgo
              · exact .inl e))
            by_cases hdd : D1 = D2
            · have hdt : dn = true := by
                cases dn with
                | true => rfl
                | false =>
                  exfalso
                  apply hgo
                  refine ⟨rfl, ?_⟩
                  have := hD rfl
                  rw [← hdd, hxd.out] at this
                  revert this
                  cases x.1.s <;> cases s <;> simp [b2i]
              subst hdt
              clear hskip htake hat hfr hD hD1 hD2 hxd hgo
              subst hdd
              go_wp2_with fail
              go_roundw
              case rel => exact ⟨j + 1, a, true, out, by omega, by go_num, rfl, hskip2, hown, hnb, h7, h8, hbw, hb1⟩
              case measure => simp [intOf]; omega
            · clear hskip htake hat hfr hD hD1 hD2 hxd hgo
              go_wp2_with fail
              go_roundw
              case rel => exact ⟨j + 1, a, dn, out, by omega, by go_num, rfl, hskip2, hown, hnb, h7, h8, hbw, hb1⟩
              case measure => simp [intOf]; omega
        · have hjn2 : j = n := by omega
          have hGe := hnx.out a dn out (by have h := hG.out; rwa [hjn2, hnl.out] at h)
          have hol := Lib.hid (show out.length ≤ 10000 by have := hG.out.len; omega)
          have hat := Lib.hid (fun (e : dn = false) => (show s2n s ≤ a ∧ a ≤ topN s from ⟨hG.out.base, hG.out.more e⟩))
          clear hG hjn2 hnx
          cases dn with
          | true =>
            have hI2 : Hid (Stg zs (k + 1) out) := Lib.hid hGe
            clear hGe hat
            go_wp2_with fail
            go_roundw
            case rel => exact ⟨k + 1, out, by omega, by go_num, hI2, hown, hbw, hb1⟩
            case measure => simp [intOf]; omega
          | false =>
            have hI2 : Hid (Stg zs (k + 1) (out ++ [(adOf a, adOf (topN s))])) := Lib.hid hGe
            obtain ⟨_, r2, r3⟩ := adOf_rg (s := s) (a := a) (b := topN s) (hat.out rfl).1 (hat.out rfl).2 (Nat.le_refl _)
            have hsp := Lib.hid (show eSp.enc (adOf a, adOf (topN s)) = digN a ++ digN (topN s) by
              show digN (adOf a).n ++ digN (adOf (topN s)).n = _
              rw [r2, r3])
            clear hGe hat r2 r3
            have k7 := h7.ld rowW rfl
            have k8 := h8.ld rowW rfl
            have hz9 := hbw.size
            have hz1 := hb1.size
            go_wp2_with (at_builtin; refine wpList_app tyeSp rfl _ _ rfl (w.heap.size + 1) _ _ [(adOf a, adOf (topN s))] rfl (hown.alloc' _) ⟨_, 0, none⟩ 1 1 rfl rfl ?d1 ?d2 ?d3 ?_)
            case d1 =>
              intro j u hj
              rw [Enc.cells_single, hsp.out] at hj
              exact cell_row_at _ _ _ _ (by simp) j u hj
            case d2 => have := hol.out; simp only [List.length_singleton]; omega
            case d3 => have := hz0.out; simp; omega
            intro v4 x4 hown4 hg4 _
            have hbw4 : Below w.heap.size w x4 := (hbw.alloc hz9 _).grown hg4 (by simp; omega) (fun k h => by have := (hown.lt k h).1; omega)
            have hb14 : Below w1.heap.size w1 x4 := (hb1.alloc hz1 _).grown hg4 (by simp; omega) (fun k h => by have := (hown.lt k h).1; have := hz0.out; omega)
            clear hg4 hown hbw hb1 k7 k8 h7 h8 hnb
            go_wp2_with fail
            go_roundw
            case rel => exact ⟨k + 1, _, by omega, by go_num, hI2, hown4, hbw4, hb14⟩
            case measure => simp [intOf]; omega
    · have hk2 : k = 2 := by omega
      subst hk2
      have hfin := Lib.hid (hI.out.done)
      obtain ⟨A2, cap2, rfl, hSl⟩ := hown.sl
      have hlt := Lib.hid (fun g off (h : A2 = some ⟨g, off, none⟩) => hown.lt g (by rw [h]; rfl))
      clear hown hI
      replace hSl := Lib.hid hSl
      generalize hm : out.length = m at *
      replace hm := Lib.hid hm
      go_wp2_with fail
      go_ret
      exact ⟨out, hfin.out.1, by rw [hm.out, hnl.out]; exact hfin.out.2, ⟨A2, cap2, by rw [hm.out]; rfl, by rw [hm.out]; exact hSl.out, fun g off e => ⟨by have := (hlt.out g off e).1; omega, (hlt.out g off e).2⟩⟩, hbw⟩
end Go.Proofs.YthjhokicojgpbaaGreatDoor
