/- The reference's spread; what the law asks of its own. -/
import Derived.Test.YtfbggfpihiegpaaGreatDoorKpGzA
import Derived.Test.YtfbggfpihiegpaaGreatDoorKpMdD
import Derived.Test.YtfbggfpihiegpaaGreatDoorKpWaysB
import Derived.Deep.CutBlock
import Derived.Test.YtfbggfpihiegpaaGreatDoorKpShelf
set_option linter.unusedVariables false
set_option linter.unusedSimpArgs false
set_option maxRecDepth 100000
namespace Go.Proofs.YtfbggfpihiegpaaGreatDoor
open Go.RowKit

set_option maxHeartbeats 4000000 in
theorem fraction_any (n d : Nat) (w : World) (hn : n ≤ 100000000000000) (hd : d ≤ 100000000000000) (hd0 : 0 < d) :
    Calls Tryz.prog 57 #[.int .i64 n, .int .i64 d] w fun e w' => e = .returned (fracV n d) ∧ Below w.heap.size w w' := by
  have hP := Blk.new w [.int .i64 0, .int .i64 0] 78
  have hbw : Below w.heap.size w (w.alloc (.cells [Value.int .i64 0, .int .i64 0].toArray 78)) := (Below.refl _ _).alloc (Nat.le_refl _) _
  obtain ⟨N, hN⟩ : ∃ N : Int, N = (n : Int) := ⟨_, rfl⟩
  obtain ⟨D, hD⟩ : ∃ D : Int, D = (d : Int) := ⟨_, rfl⟩
  rw [← hN, ← hD]
  have hG0 : Hid (∃ a b : Nat, N = a ∧ D = b ∧ Nat.gcd a b = Nat.gcd n d ∧ a ≤ 100000000000000 ∧ b ≤ 100000000000000) := Lib.hid ⟨n, d, hN, hD, rfl, hn, hd⟩
  replace hN := Lib.hid (And.intro hN (And.intro hD (And.intro hd0 (And.intro hn hd))))
  clear hn hd hd0
  clear hD
  go_enter Tryz.func57, Tryz.ntmps57
  go_wp2_with fail
  generalize World.alloc w _ = w0 at *
  go_loopw [5, 6] (fun va vb wr => ∃ A B : Int, va = .int .i64 A ∧ vb = .int .i64 B ∧ Hid (∃ a b : Nat, A = a ∧ B = b ∧ Nat.gcd a b = Nat.gcd n d ∧ a ≤ 100000000000000 ∧ b ≤ 100000000000000) ∧ Blk wr w.heap.size [.int .i64 0, .int .i64 0] 78 ∧ Below w.heap.size w wr) (fun _ vb _ => (intOf vb).toNat)
  case atStart => exact ⟨N, D, rfl, rfl, hG0, hP, hbw⟩
  case round =>
    clear hP hbw hG0
    obtain ⟨A, B, rfl, rfl, hG, hP, hbw⟩ := hrel
    by_cases h0 : B = 0
    · subst h0
      have hA : Hid (A = (Nat.gcd n d : Nat)) := Lib.hid (by
        obtain ⟨a, b, rfl, hb, hg, _⟩ := hG.out
        have : b = 0 := by omega
        subst this
        rw [← hg, Nat.gcd_zero_right])
      have hfin := Lib.hid (show fracV n d = .agg #[.int .i64 (N.tdiv A), .int .i64 (D.tdiv A)] by
        unfold fracV
        rw [hA.out, hN.out.1, hN.out.2.1, Int.ofNat_tdiv, Int.ofNat_tdiv])
      have hA0 : ¬ A = 0 := by
        rw [hA.out]
        have := Nat.gcd_pos_of_pos_right n hN.out.2.2.1
        omega
      have hA1 : ¬ A < 0 := by rw [hA.out]; omega
      have hx1 : IntKind.i64.wrap (N.tdiv A) = N.tdiv A := by
        rw [hA.out, hN.out.1, ← Int.ofNat_tdiv]
        have h1 := Nat.div_le_self n (Nat.gcd n d)
        have h2 := hN.out.2.2.2.1
        generalize n / Nat.gcd n d = q at h1
        exact IntWalk.i64_in _ (by omega)
      have hx2 : IntKind.i64.wrap (D.tdiv A) = D.tdiv A := by
        rw [hA.out, hN.out.2.1, ← Int.ofNat_tdiv]
        have h1 := Nat.div_le_self d (Nat.gcd n d)
        have h2 := hN.out.2.2.2.2
        generalize d / Nat.gcd n d = q at h1
        exact IntWalk.i64_in _ (by omega)
      clear hG
      go_upto_region 4 with fail
      refine wb_begin (([] : List Nat)) [7] (by kernel_rfl) (fun u0 hb0' hz0' => ?_)
      replace hP := hP.below hb0'
      replace hbw := hbw.trans (hb0'.mono hbw.size)
      clear hb0' hz0'
      refine wb_pureZ 0 (some 15) (v := ?_) ?_ ?_; rotate_left; · (intro u; go_simp; try with_reducible rfl)
      try simp only [Act.put, gzD, gzE, gzF]
      refine wb_pureZ 1 (some 16) (v := ?_) ?_ ?_; rotate_left; · (intro u; go_simp; try with_reducible rfl)
      try simp only [Act.put, gzD, gzE, gzF]
      refine wb_pureZ 2 (some 17) (v := ?_) ?_ ?_; rotate_left; · (intro u; go_simp; try with_reducible rfl)
      try simp only [Act.put, gzD, gzE, gzF]
      refine wb_pureZ 3 (some 18) (v := ?_) ?_ ?_; rotate_left; · (intro u; go_simp; try with_reducible rfl)
      try simp only [Act.put, gzD, gzE, gzF]
      refine wb_pureZ 4 (some 19) (v := ?_) ?_ ?_; rotate_left; · (intro u; go_simp; try with_reducible rfl)
      try simp only [Act.put, gzD, gzE, gzF]
      refine wb_pureZ 5 (some 20) (v := ?_) ?_ ?_; rotate_left; · (intro u; go_simp; try with_reducible rfl)
      try simp only [Act.put, gzD, gzE, gzF]
      refine wb_pureZ 6 (some 21) (v := ?_) ?_ ?_; rotate_left; · (intro u; go_simp; try with_reducible rfl)
      try simp only [Act.put, gzD, gzE, gzF]
      refine wb_store (i := 7) (by simp only [gzA, gzB, gzC] <;> rfl) (by kernel_rfl) (by rfl) (by kernel_rfl) (fun K hK => ?_)
      have c0 := hP.cell (i := 0) (v := .int .i64 0) rfl
      have c1 := hP.cell (i := 1) (v := .int .i64 0) rfl
      have f0 := hP.free 0
      have f1 := hP.free 1
      go_simp
      refine hK.out _ _ ?_
      clear hK K
      try simp only [Act.put, gzD, gzE, gzF]
      refine wb_done (by kernel_rfl) ?_ _
      skip
      go_wp2_with fail
      refine bodyPost_ret (v := .agg #[.int .i64 (N.tdiv A), .int .i64 (D.tdiv A)]) ?_ rfl ⟨by rw [hfin.out], (hbw.setCell (p := ⟨w.heap.size, 0, none⟩) (Nat.le_refl _) _).setCell (p := ⟨w.heap.size, 1, none⟩) (Nat.le_refl _) _⟩
      simp [results, Tryz.results57, go_sem, c0, c1]
    · have hB := Lib.hid (show ∃ a b : Nat, B = a ∧ A.tmod B = b ∧ Nat.gcd a b = Nat.gcd n d ∧ a ≤ 100000000000000 ∧ b ≤ 100000000000000 by
        obtain ⟨a, b, rfl, rfl, hg, ha, hb⟩ := hG.out
        refine ⟨b, a % b, rfl, (Int.ofNat_tmod a b).symm, (gcd_step a b).trans hg, hb, ?_⟩
        exact Nat.le_trans (Nat.mod_le _ _) ha)
      have hx : IntKind.i64.wrap (A.tmod B) = A.tmod B := by
        obtain ⟨a, b, h1, h2, hg, ha, hb⟩ := hB.out
        rw [h2]
        exact IntWalk.i64_in _ (by omega)
      have hms := Lib.hid (show (A.tmod B).toNat < B.toNat by
        obtain ⟨a, b, rfl, rfl, hg, ha, hb⟩ := hG.out
        rw [← Int.ofNat_tmod]
        have := Nat.mod_lt a (show 0 < b by omega)
        omega)
      clear hG
      go_upto_region 3 with fail
      refine wb_begin (([] : List Nat)) [] (by kernel_rfl) (fun u0 hb0' hz0' => ?_)
      replace hP := hP.below hb0'
      replace hbw := hbw.trans (hb0'.mono hbw.size)
      clear hb0' hz0'
      refine wb_pureZ 0 (some 11) (v := ?_) ?_ ?_; rotate_left; · (intro u; go_simp; try with_reducible rfl)
      try simp only [Act.put, gzD, gzE, gzF]
      refine wb_pureZ 1 (some 12) (v := ?_) ?_ ?_; rotate_left; · (intro u; go_simp; try with_reducible rfl)
      try simp only [Act.put, gzD, gzE, gzF]
      refine wb_pureZ 2 (some 13) (v := ?_) ?_ ?_; rotate_left; · (intro u; go_simp; try with_reducible rfl)
      try simp only [Act.put, gzD, gzE, gzF]
      refine wb_pureZ 3 (some 14) (v := ?_) ?_ ?_; rotate_left; · (intro u; go_simp; try with_reducible rfl)
      try simp only [Act.put, gzD, gzE, gzF]
      refine wb_pureZ 4 (some 5) (v := ?_) ?_ ?_; rotate_left; · (intro u; go_simp; try with_reducible rfl)
      try simp only [Act.put, gzD, gzE, gzF]
      refine wb_pureZ 5 (some 6) (v := ?_) ?_ ?_; rotate_left; · (intro u; go_simp; try with_reducible rfl)
      try simp only [Act.put, gzD, gzE, gzF]
      refine wb_done (by kernel_rfl) ?_ _
      skip
      go_wp2_with fail
      go_roundw
      case rel => exact ⟨_, _, rfl, rfl, hB, hP, hbw⟩
      case measure => exact hms.out


theorem own_sortedI {w : World} {B g n cap m : Nat} {ys zs : List Int} {os : Array Obj} (h : OwnE eInt 3 B w (.slice (some ⟨g, 0, none⟩) n cap) ys) (hd : zs.length = ys.length) :
    OwnE eInt 3 B (Sort.grow (Sort.putRow (Value.int .i64) (Sort.ahead w m) g 0 zs.toArray) os) (.slice (some ⟨g, 0, none⟩) n cap) zs := by
  obtain ⟨h1, h2⟩ := h
  have hcl : (eInt.cells zs).length = ys.length * eInt.k := by rw [eInt.cells_len, hd]
  have e1 : eInt.k = 1 := rfl
  refine ⟨by rw [hcl, hd], ?_⟩
  rcases h2 with ⟨hv, _⟩ | ⟨g', cap', cur, hv, hB, hh, hn, hc, hsz, htake⟩
  · cases hv
  · cases hv
    have hg : g < w.heap.size := (Array.getElem?_eq_some_iff.1 hh).1
    refine .inr ⟨g, cap, Sort.putCells (Value.int .i64) 0 zs.toArray cur, by rw [hd], hB, ?_, by rw [hd]; exact hn, hc, ?_, ?_⟩
    · unfold Sort.grow Sort.putRow Sort.mapBlock Sort.ahead
      show (w.heap.modify g _ ++ os)[g]? = _
      rw [Array.getElem?_append_left (by simp; omega), Array.getElem?_modify, if_pos rfl, hh]
      rfl
    · unfold Sort.putCells; rw [Array.size_mapIdx]; exact hsz
    · have hle : ys.length ≤ cur.size := by rw [hsz, e1, Nat.mul_one]; exact hn
      have hcl1 : (eInt.cells zs).length = zs.length := by rw [eInt.cells_len, e1, Nat.mul_one]
      apply List.ext_getElem
      · have e3 : (Sort.putCells (Value.int .i64) 0 zs.toArray cur).toList.length = cur.size := by unfold Sort.putCells; simp
        rw [List.length_take, e3, hcl, e1, hd]
        omega
      · intro j j1 j2
        rw [hcl1] at j2
        rw [List.getElem_take, Array.getElem_toList]
        unfold Sort.putCells
        rw [Array.getElem_mapIdx, if_pos ⟨Nat.zero_le _, by simpa using j2⟩, Nat.sub_zero]
        have k3 := eInt.cells_get zs j zs[j] (List.getElem?_eq_getElem j2) 0 (.int .i64 zs[j]) rfl
        have e : (eInt.cells zs)[j]'(by rw [hcl1]; exact j2) = .int .i64 zs[j] := by
          have := (List.getElem?_eq_some_iff.1 k3).2
          simpa [e1] using this
        rw [e]
        show Value.int .i64 (zs.toArray[j]!) = _
        rw [getElem!_pos zs.toArray j (by simpa using j2)]
        simp
theorem below_sortedI {w : World} {B g m : Nat} {zs : List Int} {os : Array Obj} (hg : B ≤ g) (hB : B ≤ w.heap.size) : Below B w (Sort.grow (Sort.putRow (Value.int .i64) (Sort.ahead w m) g 0 zs.toArray) os) := by
  refine ⟨rfl, rfl, rfl, ?_, fun k hk => ?_⟩
  · show w.heap.size ≤ (w.heap.modify g _ ++ os).size
    simp
  · show (w.heap.modify g _ ++ os)[k]? = _
    rw [Array.getElem?_append_left (by simp; omega), Array.getElem?_modify, if_neg (by omega)]

theorem sortI_any (B : Nat) (A : Option Addr) (cap : Nat) (zs : List Int) (w : World) (hown : OwnE eInt 3 B w (.slice A zs.length cap) zs) (hB : B ≤ w.heap.size) (hl : zs.length ≤ 1000000) :
    Calls Tryz.prog 176 #[.slice A zs.length cap] w fun e w' => e = .returned (.tuple #[]) ∧ OwnE eInt 3 B w' (.slice A zs.length cap) (srtI zs) ∧ Below B w w' := by
  by_cases hx : zs = []
  · subst hx
    refine (Tryz.slices_Sort_int_none A cap w).mono ?_
    rintro e w' ⟨rfl, rfl⟩
    exact ⟨rfl, by rw [show srtI [] = [] from by simp [srtI]]; exact hown, Below.refl _ _⟩
  · obtain ⟨g, cap', hv, hBg, hgl, _, hc, hf⟩ := hown.form hx
    cases hv
    have hH : Sort.Holds (Value.int .i64) w g 0 zs.toArray := by
      intro j hj
      have hj' : j < zs.length := by simpa using hj
      have := hc j zs[j] (List.getElem?_eq_getElem hj') 0 (.int .i64 zs[j]) rfl
      refine ⟨?_, hf _⟩
      rw [getElem!_pos zs.toArray j hj, Nat.zero_add]
      simpa [show eInt.k = 1 from rfl] using this
    refine (Tryz.slices_Sort_int g 0 cap zs w hH hgl (by omega)).mono ?_
    rintro e w' ⟨rfl, m, os, rfl⟩
    exact ⟨rfl, own_sortedI hown (srt_len zs), below_sortedI hBg hB⟩

set_option maxHeartbeats 1000000 in
theorem sortedI_any (bs : Nat) (A : Option Addr) (n cap : Nat) (zs : List Int) (w : World) (hS : SlE eInt w A n cap zs) (hbs : Boxed w bs 22 (.slice A n cap)) (hn : n ≤ 100000) :
    Calls Tryz.prog 97 #[.func (.func 177) #[] #[.pointer (some ⟨bs, 0, none⟩)]] w fun e w' => (∃ A' cap', e = .returned (.slice A' zs.length cap') ∧ OwnE eInt 3 w.heap.size w' (.slice A' zs.length cap') (srtI zs)) ∧ Below w.heap.size w w' := by
  have HC := Lib.hid (collectI_any bs A n cap zs w hS hbs hn)
  have hl : zs.length ≤ 100000 := by rw [← hS.1]; exact hn
  clear hS hbs
  go_enter Tryz.func97, Tryz.ntmps97
  go_wp2_with fail
  refine HC.out.mono ?_
  rintro e w1 ⟨⟨v, rfl, hown⟩, hb1⟩
  obtain ⟨A', cp, rfl, _⟩ := hown.sl
  have hz1 := hb1.size
  go_wp2_with fail
  refine (sortI_any w.heap.size A' cp zs w1 hown hz1 (by omega)).mono ?_
  rintro e w2 ⟨rfl, hown2, hb2⟩
  have hbF := hb1.trans hb2
  clear hown hb1 hb2 HC
  go_wp2_with fail
  go_ret
  exact ⟨⟨_, _, rfl, hown2⟩, hbF⟩

theorem own_mid {B g cap n : Nat} {w : World} {s : List Int} (hown : OwnE eInt 3 B w (.slice (some ⟨g, 0, none⟩) n cap) s) (hx : s ≠ []) {j : Nat} (hj : j < s.length) : w.cell? ⟨g, j, none⟩ = some (.int .i64 (s.getD j 0)) := by
  obtain ⟨g', cap', hv, _, _, _, hc, _⟩ := hown.form hx
  cases hv
  have := hc j s[j] (List.getElem?_eq_getElem hj) 0 (.int .i64 s[j]) rfl
  rw [show eInt.k = 1 from rfl, Nat.mul_one, Nat.add_zero] at this
  rw [this, List.getD_eq_getElem?_getD, List.getElem?_eq_getElem hj]
  rfl

set_option maxHeartbeats 2000000 in
theorem twiceMedian_any (A : Option Addr) (n cap : Nat) (zs : List Int) (w : World) (hS : SlE eInt w A n cap zs) (hn : n ≤ 3000) (hx : zs ≠ []) (hz : ∀ z ∈ zs, 0 ≤ z ∧ z ≤ 8000000000000) :
    Calls Tryz.prog 58 #[.slice A n cap] w fun e w' => e = .returned (.int .i64 (twiceI zs)) ∧ Below w.heap.size w w' := by
  have hbB := Boxed.new w 22 (.slice A n cap)
  have hb0 : Below w.heap.size w (w.alloc (.cells #[.slice A n cap] 22)) := (Below.refl _ _).alloc (Nat.le_refl _) _
  have HS := Lib.hid (sortedI_any w.heap.size A n cap zs _ (hS.below hb0) hbB (by omega))
  have hsl := srt_len zs
  have hne := srt_ne hx
  have hb := Lib.hid (twice_bound hx hz)
  have hmm := Lib.hid (fun z (h : z ∈ srtI zs) => hz z (srt_mem h))
  have htw : Hid (twiceI zs = midS (srtI zs)) := Lib.hid rfl
  obtain ⟨R, hR⟩ : ∃ R, R = twiceI zs := ⟨_, rfl⟩
  rw [← hR] at htw hb ⊢
  obtain ⟨L, hL⟩ : ∃ L, L = zs.length := ⟨_, rfl⟩
  rw [← hL] at HS hsl
  have hLn : L ≤ 3000 := by rw [hL, ← hS.1]; exact hn
  have hL0 : 0 < L := by rw [hL]; exact List.length_pos_iff.2 hx
  generalize srtI zs = s at *
  replace hsl := Lib.hid hsl
  replace hne := Lib.hid hne
  clear hS hx hz hbB hR hL
  go_enter Tryz.func58, Tryz.ntmps58
  go_wp2_with fail
  refine (valuesI_any A n cap w).mono ?_
  rintro e w1 ⟨rfl, rfl⟩
  go_wp2_with fail
  refine HS.out.mono ?_
  rintro e w2 ⟨⟨A', cp, rfl, hown⟩, hb2⟩
  have hbw := hb0.trans (hb2.mono (by simp))
  obtain ⟨g, cap', hv, _⟩ := hown.form hne.out
  rw [hsl.out] at hv
  cases hv
  have k1 := own_mid hown hne.out (j := (L - 1) / 2) (by rw [hsl.out]; omega)
  have k2 := own_mid hown hne.out (j := L / 2) (by rw [hsl.out]; omega)
  have hsum := Lib.hid (show s.getD ((L - 1) / 2) 0 + s.getD (L / 2) 0 = R by rw [htw.out]; unfold midS; rw [hsl.out])
  generalize s.getD ((L - 1) / 2) 0 = x1 at k1 hsum
  generalize s.getD (L / 2) 0 = x2 at k2 hsum
  have hxs : IntKind.i64.wrap (x1 + x2) = x1 + x2 := by have := hb.out; have := hsum.out; exact IntWalk.i64_in _ (by omega)
  have hq1 : IntKind.i64.wrap ((L : Int) - 1) = (L : Int) - 1 := IntWalk.i64_in _ (by omega)
  have hcap : L ≤ cp := by rw [← hsl.out]; exact (hown.sl).elim fun _ h => h.elim fun _ h => by cases h.1; exact h.2.2.1
  clear hown hb2 HS hb0
  go_wp2_with fail
  go_quiet (fail)
  go_wp2_with fail
  go_ret
  exact ⟨by rw [← hsum.out]; rfl, ⟨hbw.os, hbw.tape, hbw.output, hbw.size, hbw.block⟩⟩


theorem Blk.twoM {w : World} {p : Nat} {a b : Value} {t : TypeId} (h : Blk w p [a, b] t) : w.cell? ⟨p, 0, none⟩ = some a ∧ w.cell? ⟨p, 1, none⟩ = some b ∧ w.frozen? ⟨p, 0, none⟩ = false ∧ w.frozen? ⟨p, 1, none⟩ = false :=
  ⟨h.cell (i := 0) (v := a) rfl, h.cell (i := 1) (v := b) rfl, h.free _, h.free _⟩
def medV (f : Int) (n d : Nat) : Value := if f = 0 then .tuple #[fracV n d, .int .i64 0] else .tuple #[.agg #[.int .i64 0, .int .i64 0], .int .i64 f]

set_option maxHeartbeats 2000000 in
theorem median_any (A : Option Addr) (n cap : Nat) (zs : List Int) (w : World) (hS : SlE eInt w A n cap zs) (hn : n ≤ 1000000) :
    Calls Tryz.prog 31 #[.slice A n cap] w fun e w' => e = .returned (medV (numsF zs) (twiceI zs).toNat 2) ∧ Below w.heap.size w w' := by
  have hbw : Below w.heap.size w (w.alloc (.cells #[.int .i64 0, .int .i64 0] 78)) := (Below.refl _ _).alloc (Nat.le_refl _) _
  have hP := Blk.new w [.int .i64 0, .int .i64 0] 78
  have HC := Lib.hid (checkNumbers_any A n cap zs _ (hS.below hbw) hn)
  by_cases h0 : numsF zs = 0
  · obtain ⟨hne, hl, hz⟩ := numsF_zero h0
    rw [h0] at HC ⊢
    obtain ⟨x, y, hxy⟩ : ∃ x y, fracV (twiceI zs).toNat 2 = .agg #[.int .i64 x, .int .i64 y] := ⟨_, _, rfl⟩
    have hv := Lib.hid (show medV 0 (twiceI zs).toNat 2 = .tuple #[.agg #[.int .i64 x, .int .i64 y], .int .i64 0] by unfold medV; rw [if_pos rfl, hxy])
    have hb := twice_bound hne hz
    have HT := Lib.hid (fun W (hW : Below w.heap.size w W) => twiceMedian_any A n cap zs W (hS.below hW) (by rw [hS.1]; exact hl) hne (fun z h => by have := hz z h; omega))
    have HF := Lib.hid (fun W => fraction_any (twiceI zs).toNat 2 W (by omega) (by omega) (by omega))
    rw [hxy] at HF
    rw [Int.toNat_of_nonneg hb.1] at HF
    rw [hv.out]
    generalize (twiceI zs).toNat = Q at *
    clear h0 hne hl hz hxy hb hS hv
    generalize twiceI zs = R at *
    obtain ⟨c0, c1, f0, f1⟩ := Blk.twoM hP
    go_enter Tryz.func31, Tryz.ntmps31
    go_wp2_with fail
    refine HC.out.mono ?_
    rintro e w1 ⟨rfl, rfl⟩
    go_wp2_with fail
    refine (HT.out _ hbw).mono ?_
    rintro e w2 ⟨rfl, hb2⟩
    have hP2 := hP.below hb2
    replace hbw := hbw.trans (hb2.mono hbw.size)
    clear hb2 hP c0 c1 f0 f1
    go_wp2_with fail
    refine (HF.out _).mono ?_
    rintro e w3 ⟨rfl, hb2⟩
    have hP3 := hP2.below hb2
    replace hbw := hbw.trans (hb2.mono hbw.size)
    clear hb2 hP2
    obtain ⟨c0, c1, f0, f1⟩ := Blk.twoM hP3
    go_wp2_with fail
    refine bodyPost_ret (v := .tuple #[.agg #[.int .i64 x, .int .i64 y], .int .i64 0]) ?_ rfl ⟨rfl, (hbw.setCell (p := ⟨w.heap.size, 0, none⟩) (Nat.le_refl _) _).setCell (p := ⟨w.heap.size, 1, none⟩) (Nat.le_refl _) _⟩
    simp [results, Tryz.results31, go_sem, c0, c1]
  · obtain ⟨r, hr⟩ : ∃ r, r = numsF zs := ⟨_, rfl⟩
    rw [← hr] at h0 HC ⊢
    have hv := Lib.hid (show medV r (twiceI zs).toNat 2 = .tuple #[.agg #[.int .i64 0, .int .i64 0], .int .i64 r] by unfold medV; rw [if_neg h0])
    rw [hv.out]
    obtain ⟨c0, c1, f0, f1⟩ := Blk.twoM hP
    clear hS hr hv
    go_enter Tryz.func31, Tryz.ntmps31
    go_wp2_with fail
    refine HC.out.mono ?_
    rintro e w1 ⟨rfl, rfl⟩
    go_wp2_with fail
    refine bodyPost_ret (v := .tuple #[.agg #[.int .i64 0, .int .i64 0], .int .i64 r]) ?_ rfl ⟨rfl, hbw⟩
    simp [results, Tryz.results31, go_sem, c0, c1]



theorem srt129 : srtI [1, 2, 9] = [1, 2, 9] := by
  unfold srtI
  exact List.mergeSort_of_pairwise (by decide)
theorem med129 : medV (numsF [1, 2, 9]) (twiceI [1, 2, 9]).toNat 2 = .tuple #[.agg #[.int .i64 2, .int .i64 1], .int .i64 0] := by
  unfold twiceI
  rw [srt129, show numsF [1, 2, 9] = 0 from by decide, show (midS [1, 2, 9]).toNat = 4 from by decide]
  unfold medV fracV
  rw [if_pos rfl, show Nat.gcd 4 2 = 2 from by decide]
  rfl

end Go.Proofs.YtfbggfpihiegpaaGreatDoor
