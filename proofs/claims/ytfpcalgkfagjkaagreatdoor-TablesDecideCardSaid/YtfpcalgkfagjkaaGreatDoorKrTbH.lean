/- Tables: Differ. -/
import Derived.Test.YtfpcalgkfagjkaaGreatDoorKrGzA
import Derived.Test.YtfpcalgkfagjkaaGreatDoorKrTbG
set_option linter.unusedVariables false
set_option linter.unusedSimpArgs false
set_option maxRecDepth 100000
namespace Go.Proofs.YtfpcalgkfagjkaaGreatDoor
open Go.RowKit

theorem results_cell_tmp2_row {fn : Func} {p u v : Tmp} {ty : TypeId} {k : Nat} (T : RowT ty k) (h : fn.results = #[.cell p ty, .tmp u, .tmp v]) (tmps : Array Value) (w : World) (g : Nat) (t : TypeId) (cs : List Value) (x y : Value)
    (hp : tmps.getD p undef = .pointer (some ⟨g, 0, none⟩)) (hx : tmps.getD u undef = x) (hy : tmps.getD v undef = y) (hg : Blk w g cs t) (hl : cs.length = k) :
    (results fn tmps).run Tryz.prog w = .ok (.tuple #[.agg cs.toArray, x, y]) w := by
  obtain ⟨d, hu, hd⟩ := T.row
  have := run_loadVar_mid (P := Tryz.prog) w g 0 ty cs d (hg.range 0 cs [] (by simp)) hu hd (by rw [T.size, hl])
  have e : (results fn tmps).run Tryz.prog w = ((asAddr (tmps.getD p undef)).run Tryz.prog w).andThen fun a w₁ => ((loadVar ty a).run Tryz.prog w₁).andThen fun z w₂ => .ok (.tuple #[z, tmps.getD u undef, tmps.getD v undef]) w₂ := by
    simp only [results, h]
    simp [Sem.run_bind, Result.andThen]
  rw [e, hp, hx, hy]
  simp [asAddr, this, Result.andThen]
def DifP (t y : List En) (E : Int) (b : Ad) (is : Bool) : Prop :=
  (is = true → E = 0 ∧ b.R ∧ lookT t b.n ≠ lookT y b.n ∧ ∀ m, Val m → m < b.n → lookT t m = lookT y m) ∧ (is = false → b = ⟨false, 0, 0⟩ ∧ (E = 0 → ∀ m, Val m → lookT t m = lookT y m))
def GivesDif (t y : List En) (E : Int) (w : World) (e : Ending) (w' : World) : Prop := ∃ b is, e = .returned (.tuple #[adA b, .bool is, .int .i64 E]) ∧ DifP t y E b is ∧ Below w.heap.size w w'
theorem cut_idx {cs : List Ad} (h : Cut cs) {j k : Nat} {c x : Ad} (hj : cs[j]? = some c) (hk : cs[k]? = some x) (hlt : c.n < x.n) : j < k := by
  obtain ⟨hj1, hj2⟩ := List.getElem?_eq_some_iff.1 hj
  obtain ⟨hk1, hk2⟩ := List.getElem?_eq_some_iff.1 hk
  rcases Nat.lt_trichotomy j k with g | rfl | g
  · exact g
  · rw [hj2] at hk2
    rw [hk2] at hlt
    omega
  · have := List.pairwise_iff_getElem.1 h.sorted k j hk1 hj1 g
    rw [hj2, hk2] at this
    omega
theorem tabF_len {t : List En} (h : tabF t = 0) : t.length ≤ 500 := by
  unfold tabF at h
  split at h
  · omega
  · omega

set_option maxHeartbeats 4000000 in
theorem differT_any (E : Int) (A : Option Addr) (n cap : Nat) (t : List En) (A' : Option Addr) (n' cap' : Nat) (y : List En) (w : World) (hS : SlE eEn w A n cap t) (hn : n ≤ 100000) (hU : ∀ x ∈ t, x.p.1.U)
    (hS' : SlE eEn w A' n' cap' y) (hn' : n' ≤ 100000) (hU' : ∀ x ∈ y, x.p.1.U) (hE : firstZ [tabF t, tabF y] = E) :
    Calls Tryz.prog 12 #[.slice A n cap, .slice A' n' cap'] w (GivesDif t y E w) := by
  have HT := Lib.hid (fun W (hW : Below w.heap.size w W) => checkTable_any (tabF t) A n cap t W (hS.below hW) hn hU rfl)
  have HU := Lib.hid (fun W (hW : Below w.heap.size w W) => checkTable_any (tabF y) A' n' cap' y W (hS'.below hW) hn' hU' rfl)
  have HG := Lib.hid (fun h0 : E = 0 => (⟨fun x hx => (tabF_good hU ((firstZ_both _ _).1 (hE.trans h0)).1 x hx).1, fun x hx => (tabF_good hU' ((firstZ_both _ _).1 (hE.trans h0)).2 x hx).1, tabF_len ((firstZ_both _ _).1 (hE.trans h0)).1, tabF_len ((firstZ_both _ _).1 (hE.trans h0)).2⟩ : (∀ x ∈ t, x.p.R) ∧ (∀ x ∈ y, x.p.R) ∧ t.length ≤ 500 ∧ y.length ≤ 500))
  obtain ⟨E1, hE1⟩ : ∃ E, E = tabF t := ⟨_, rfl⟩
  obtain ⟨E2, hE2⟩ : ∃ E, E = tabF y := ⟨_, rfl⟩
  rw [← hE1, ← hE2] at hE
  rw [← hE1] at HT
  rw [← hE2] at HU
  replace hE := Lib.hid hE
  clear hE1 hE2 hU hU'
  replace hS := Lib.hid hS
  replace hS' := Lib.hid hS'
  have hZ := Blk.new w (adC ⟨false, 0, 0⟩) 30
  have hbw : Below w.heap.size w (w.alloc (.cells (adC ⟨false, 0, 0⟩).toArray 30)) := (Below.refl _ _).alloc (Nat.le_refl _) _
  have B1 := fun w' => run_build (P := Tryz.prog) w' 30 #[] (adC ⟨false, 0, 0⟩).toArray (by kernel_rfl)
  go_enter Tryz.func12, Tryz.ntmps12
  go_wp2_with fail
  refine (HT.out _ hbw).mono ?_
  rintro e u1 ⟨rfl, hv1⟩
  replace hZ := hZ.below hv1
  replace hbw := hbw.trans (hv1.mono hbw.size)
  clear hv1
  go_wp2_with fail
  refine (HU.out _ hbw).mono ?_
  rintro e u2 ⟨rfl, hv1⟩
  replace hZ := hZ.below hv1
  replace hbw := hbw.trans (hv1.mono hbw.size)
  clear hv1
  have hz2 := hbw.size
  have hN := Blk.new u2 ([E1, E2].map (Value.int .i64)) 40
  replace hZ := hZ.alloc (.cells ([E1, E2].map (Value.int .i64)).toArray 40)
  replace hbw := hbw.alloc hz2 (.cells ([E1, E2].map (Value.int .i64)).toArray 40)
  have HE := Lib.hid (orE_blk [E1, E2] _ 2 _ _ hN (by simp))
  rw [hE.out] at HE
  clear hN hz2
  go_wp2_with fail
  refine HE.out.mono ?_
  rintro e u4 ⟨rfl, hw4⟩
  rw [hw4] at hZ hbw
  clear HE hw4
  by_cases hE0 : E = 0
  · have b0 : (E == 0) = true := by simp [hE0]
    obtain ⟨gR1, gR2, gl1, gl2⟩ := HG.out hE0
    have hE1 := Lib.hid hE0
    have HR1 := Lib.hid (fun W (hW : Below w.heap.size w W) => reaches_any A n cap t W (hS.out.below hW) hn gR1)
    have HR2 := Lib.hid (fun W (hW : Below w.heap.size w W) => reaches_any A' n' cap' y W (hS'.out.below hW) hn' gR2)
    have hN1 := Lib.hid (show (rgT t).length ≤ 5000 by unfold rgT; rw [List.length_map]; omega)
    have hN2 := Lib.hid (show (rgT y).length ≤ 5000 by unfold rgT; rw [List.length_map]; omega)
    have hG1 := Lib.hid (show ∀ x ∈ rgT t, RgR x from fun x hx => by obtain ⟨e, he, rfl⟩ := List.mem_map.1 hx; exact rgP_R (gR1 e he))
    have hG2 := Lib.hid (show ∀ x ∈ rgT y, RgR x from fun x hx => by obtain ⟨e, he, rfl⟩ := List.mem_map.1 hx; exact rgP_R (gR2 e he))
    replace gR1 := Lib.hid gR1
    replace gR2 := Lib.hid gR2
    replace gl1 := Lib.hid gl1
    replace gl2 := Lib.hid gl2
    clear hE0 HT HU HG
    go_wp2_with fail
    refine (HR1.out _ hbw).mono ?_
    rintro e up ⟨v1, rfl, ho1, hv1⟩
    replace hZ := hZ.below hv1
    replace hbw := hbw.trans (hv1.mono hbw.size)
    obtain ⟨B1, d1, rfl, hS1⟩ := ho1.sl
    clear hv1 ho1
    replace hS1 := Lib.hid hS1
    go_wp2_with fail
    refine (HR2.out _ hbw).mono ?_
    rintro e ur ⟨v2, rfl, ho2, hv1⟩
    replace hZ := hZ.below hv1
    replace hbw := hbw.trans (hv1.mono hbw.size)
    replace hS1 := Lib.hid (hS1.out.below hv1)
    obtain ⟨B2, d2, rfl, hS2⟩ := ho2.sl
    clear hv1 ho2
    replace hS2 := Lib.hid hS2
    have hz2 := hbw.size
    have hQ := Blk.new ur [.slice B1 (rgT t).length d1, .slice B2 (rgT y).length d2] 67
    have hvQ : Below ur.heap.size ur (ur.alloc (.cells [Value.slice B1 (rgT t).length d1, .slice B2 (rgT y).length d2].toArray 67)) := (Below.refl _ _).alloc (Nat.le_refl _) _
    replace hZ := hZ.below hvQ
    replace hbw := hbw.trans (hvQ.mono hbw.size)
    have HQ := Lib.hid (cuts_any _ B1 B2 (rgT t).length d1 (rgT y).length d2 (rgT t) (rgT y) _ hQ (hS1.out.below hvQ) (hS2.out.below hvQ) hN1.out hN2.out hG1.out hG2.out)
    obtain ⟨l1, hl1⟩ : ∃ l, l = (rgT t).length := ⟨_, rfl⟩
    obtain ⟨l2, hl2⟩ : ∃ l, l = (rgT y).length := ⟨_, rfl⟩
    rw [← hl1, ← hl2] at hZ hbw HQ ⊢
    replace hl1 := Lib.hid hl1
    replace hl2 := Lib.hid hl2
    clear hQ hvQ hz2 hS1 hS2
    go_wp2_with fail
    refine HQ.out.mono ?_
    rintro e uq ⟨gq, cq, cs, rfl, hSc, hct, hc1, hc2, hcl, hv1⟩
    rw [hl1.out, hl2.out] at hcl
    replace hZ := hZ.below hv1
    replace hbw := hbw.trans (hv1.mono hbw.size)
    clear hv1 HQ
    replace hSc := Lib.hid hSc
    replace hct := Lib.hid hct
    replace hc1 := Lib.hid hc1
    replace hc2 := Lib.hid hc2
    have hcn : cs.length ≤ 30000 := by have h1 := hN1.out; have h2 := hN2.out; have h3 := hl1.out; have h4 := hl2.out; omega
    obtain ⟨L, hL⟩ : ∃ L, L = cs.length := ⟨_, rfl⟩
    rw [← hL] at hSc hcn ⊢
    replace hL := Lib.hid hL
    clear hcl HR1 HR2 hN1 hN2 hG1 hG2
    go_wp2_with fail
    go_loopw [27] (fun vi wr => ∃ k : Nat, k ≤ L ∧ vi = .int .i64 k ∧ Below w.heap.size w wr ∧ Blk wr w.heap.size (adC ⟨false, 0, 0⟩) 30 ∧ Below uq.heap.size uq wr ∧ Hid (∀ j c, j < k → cs[j]? = some c → lookT t c.n = lookT y c.n)) (fun vi _ => L - (intOf vi).toNat)
    case atStart => exact ⟨0, Nat.zero_le _, rfl, hbw, hZ, Below.refl _ _, Lib.hid (fun j c h => absurd h (Nat.not_lt_zero _))⟩
    case round =>
      clear hbw hZ
      obtain ⟨k, hk, rfl, hbw, hZ, hb5, hI⟩ := hrel
      by_cases hlt : k < L
      · obtain ⟨x, hx⟩ : ∃ x, cs[k]? = some x := ⟨cs[k]'(by have := hL.out; omega), List.getElem?_eq_getElem _⟩
        have hSc1 := hSc.out.below hb5
        have hld := SlE.ld rowAd hSc1 hx
        replace hld : (ldT 30 (.pointer (some ⟨gq, 0 + k * 3, none⟩))).run Tryz.prog wr = .ok (.value (adA x)) wr := hld
        rw [Nat.zero_add] at hld
        have hxR := hct.out.right x (List.mem_of_getElem? hx)
        have hlt' : (k : Int) < L := by omega
        have hsw := hbw.size
        have S1 := stT_new rowAd (te := 30) wr wr.heap.size rfl [.bool false, .int .u64 0, .int .u64 0] (adC x) rfl rfl (adC_one x)
        have hX := Blk.new wr (adC x) 30
        have hvA : Below wr.heap.size wr (wr.alloc (.cells (adC x).toArray 30)) := (Below.refl _ _).alloc (Nat.le_refl _) _
        have HL1 := Lib.hid (fun W (hW : Below w.heap.size w W) => look_any x A n cap t W (hS.out.below hW) hn gR1.out hxR)
        have HL2 := Lib.hid (fun W (hW : Below w.heap.size w W) => look_any x A' n' cap' y W (hS'.out.below hW) hn' gR2.out hxR)
        obtain ⟨s1, hs1⟩ : ∃ s, s = lookT t x.n := ⟨_, rfl⟩
        obtain ⟨s2, hs2⟩ : ∃ s, s = lookT y x.n := ⟨_, rfl⟩
        rw [← hs1] at HL1
        rw [← hs2] at HL2
        replace hs1 := Lib.hid hs1
        replace hs2 := Lib.hid hs2
        replace hx := Lib.hid hx
        replace hxR := Lib.hid hxR
        replace hb5 := Lib.hid hb5
        clear hSc1
        replace hZ := hZ.below hvA
        replace hbw := hbw.trans (hvA.mono hbw.size)
        have hbr := hvA
        clear hvA
        go_upto_region 7 with fail
        refine wb_begin ([wr.heap.size]) [] (by kernel_rfl) (fun u0 hb0' hz0' => ?_)
        replace hX := hX.below hb0'
        replace hbr := hbr.trans (hb0'.mono hbr.size)
        replace hZ := hZ.below hb0'
        replace hbw := hbw.trans (hb0'.mono hbw.size)
        clear hb0' hz0'
        refine wb_pureZ 0 (some 31) (v := ?_) ?_ ?_; rotate_left; · (intro u; go_simp; try with_reducible rfl)
        try simp only [Act.put, gzD, gzE, gzF]
        refine wb_takeZ 1 (some 32) (v := ?_) ?_ ?_; rotate_left; · (intro u hu; have kc := hX.kb hu (List.mem_singleton.2 rfl); have k1 := kc.ld rowAd rfl; go_simp; try with_reducible rfl)
        try simp only [Act.put, gzD, gzE, gzF]
        refine wb_pureZ 3 (some 34) (v := ?_) ?_ ?_; rotate_left; · (intro u; go_simp; try with_reducible rfl)
        try simp only [Act.put, gzD, gzE, gzF]
        refine wb_takeZ 4 (some 35) (v := ?_) ?_ ?_; rotate_left; · (intro u hu; have kc := hX.kb hu (List.mem_singleton.2 rfl); have k1 := kc.ld rowAd rfl; go_simp; try with_reducible rfl)
        try simp only [Act.put, gzD, gzE, gzF]
        refine wb_oneZ 2 (fun K hK => ?_)
        go_simp
        refine (HL1.out _ hbw).mono ?_
        rintro e u2 ⟨rfl, hv1⟩
        refine hK _ _ (Kb.below hv1 (by intro q hq; rw [List.mem_singleton.1 hq]; exact hX.lt)) ?_
        replace hX := hX.below hv1
        replace hbr := hbr.trans (hv1.mono hbr.size)
        replace hZ := hZ.below hv1
        replace hbw := hbw.trans (hv1.mono hbw.size)
        clear hK K hv1
        try simp only [Act.put, gzD, gzE, gzF]
        refine wb_oneZ 5 (fun K hK => ?_)
        go_simp
        refine (HL2.out _ hbw).mono ?_
        rintro e u5 ⟨rfl, hv1⟩
        refine hK _ _ (Kb.below hv1 (by intro q hq; rw [List.mem_singleton.1 hq]; exact hX.lt)) ?_
        replace hX := hX.below hv1
        replace hbr := hbr.trans (hv1.mono hbr.size)
        replace hZ := hZ.below hv1
        replace hbw := hbw.trans (hv1.mono hbw.size)
        clear hK K hv1
        try simp only [Act.put, gzD, gzE, gzF]
        refine wb_pureZ 6 (some 37) (v := ?_) ?_ ?_; rotate_left; · (intro u; go_simp; try with_reducible rfl)
        try simp only [Act.put, gzD, gzE, gzF]
        refine wb_done (by kernel_rfl) ?_ _
        skip
        by_cases hse : s1 = s2
        · have b1 : (s1 == s2) = true := by simp [hse]
          have hI2 : Hid (∀ j c, j < k + 1 → cs[j]? = some c → lookT t c.n = lookT y c.n) := Lib.hid fun j c hj hc => by
            rcases Nat.lt_succ_iff_lt_or_eq.1 hj with h | rfl
            · exact hI.out j c h hc
            · rw [hx.out] at hc
              obtain rfl := Option.some.inj hc
              rw [← hs1.out, ← hs2.out]; exact hse
          have hb6 := hb5.out.trans (hbr.mono hb5.out.size)
          clear hI hse hb5 hbr HL1 HL2 hX hld S1
          rw [b1]
          go_wp2_with fail
          go_roundw
          case rel => exact ⟨k + 1, by omega, by go_num, hbw, hZ, hb6, hI2⟩
          case measure => simp [intOf]; omega
        · have b1 : (s1 == s2) = false := by simp [hse]
          have S8 := stT_row rowAd hZ rfl (adC_len x) (adC_one x)
          have k1 := hX.ld rowAd rfl
          have hmin := Lib.hid (fun m (hm : Val m) (hlm : m < x.n) => cuts_say gR1.out gR2.out hct.out hc1.out hc2.out hm (fun c hc hle => by
            obtain ⟨j, hj⟩ := List.getElem?_of_mem hc
            exact hI.out j c (cut_idx hct.out hj hx.out (by omega)) hj))
          have hne := Lib.hid (show lookT t x.n ≠ lookT y x.n by rw [← hs1.out, ← hs2.out]; exact hse)
          replace hZ := hZ.row (adC x)
          replace hbw := below_row hbw (Nat.le_refl _) (adC x).toArray
          clear hI hse hb5 hbr HL1 HL2 hX hld S1
          rw [b1]
          go_wp2_with fail
          (try simp only [Exit.inBlock, Exit.then])
          refine bodyPost_ret (v := .tuple #[adA x, .bool true, .int .i64 0]) (results_cell_tmp2_row rowAd rfl _ _ w.heap.size _ _ _ _ rfl rfl rfl hZ rfl) rfl ?_
          exact ⟨x, true, by rw [hE1.out], ⟨fun _ => ⟨hE1.out, hxR.out, hne.out, hmin.out⟩, fun h => (by cases h)⟩, hbw⟩
      · have hall := Lib.hid (fun m (hm : Val m) => cuts_say gR1.out gR2.out hct.out hc1.out hc2.out hm (fun c hc _ => by
          obtain ⟨j, hj⟩ := List.getElem?_of_mem hc
          have h1 := (List.getElem?_eq_some_iff.1 hj).1
          exact hI.out j c (by have := hL.out; omega) hj))
        have hnlt : ¬ (k : Int) < L := by omega
        have S1 : (stT 30 (.pointer (some ⟨w.heap.size, 0, none⟩)) (.agg #[.bool false, .int .u64 0, .int .u64 0])).run Tryz.prog wr = .ok .skip (wr.setRow w.heap.size #[.bool false, .int .u64 0, .int .u64 0]) := stT_row rowAd hZ rfl (adC_len ⟨false, 0, 0⟩) (adC_one ⟨false, 0, 0⟩)
        replace hZ := hZ.row (adC ⟨false, 0, 0⟩)
        replace hbw := below_row hbw (Nat.le_refl _) (adC ⟨false, 0, 0⟩).toArray
        clear hI hb5
        go_wp2_with fail
        (try simp only [Exit.inBlock, Exit.then])
        refine bodyPost_ret (v := .tuple #[adA ⟨false, 0, 0⟩, .bool false, .int .i64 0]) (results_cell_tmp2_row rowAd rfl _ _ w.heap.size _ _ _ _ rfl rfl rfl hZ rfl) rfl ?_
        exact ⟨⟨false, 0, 0⟩, false, by rw [hE1.out], ⟨fun h => (by cases h), fun _ => ⟨rfl, fun _ => hall.out⟩⟩, hbw⟩
  · have b0 : (E == 0) = false := by simp [hE0]
    have hE1 := Lib.hid hE0
    have S1 : (stT 30 (.pointer (some ⟨w.heap.size, 0, none⟩)) (.agg #[.bool false, .int .u64 0, .int .u64 0])).run Tryz.prog u4 = .ok .skip (u4.setRow w.heap.size #[.bool false, .int .u64 0, .int .u64 0]) := stT_row rowAd hZ rfl (adC_len ⟨false, 0, 0⟩) (adC_one ⟨false, 0, 0⟩)
    replace hZ := hZ.row (adC ⟨false, 0, 0⟩)
    replace hbw := below_row hbw (Nat.le_refl _) (adC ⟨false, 0, 0⟩).toArray
    clear hE0 HT HU HG
    go_wp2_with fail
    (try simp only [Exit.inBlock, Exit.then])
    refine bodyPost_ret (v := .tuple #[adA ⟨false, 0, 0⟩, .bool false, .int .i64 E]) (results_cell_tmp2_row rowAd rfl _ _ w.heap.size _ _ _ _ rfl rfl rfl hZ rfl) rfl ?_
    exact ⟨⟨false, 0, 0⟩, false, rfl, ⟨fun h => (by cases h), fun _ => ⟨rfl, fun h => absurd h hE1.out⟩⟩, hbw⟩
end Go.Proofs.YtfpcalgkfagjkaaGreatDoor
