/- Four times the spread, as the program finds it; Median and Spread. -/
import Derived.Test.YtfiocnjogbpgoaaGreatDoorKiMdC
import Derived.Test.YtfiocnjogbpgoaaGreatDoorKiMdD
import Derived.Test.YtfiocnjogbpgoaaGreatDoorKiShelf
namespace Go.Proofs.YtfiocnjogbpgoaaGreatDoor
open Go.RowKit
set_option linter.unusedVariables false
set_option linter.unusedSimpArgs false

theorem own_sortedI {w : World} {B g n cap m : Nat} {ys zs : List Int} {os : Array Obj} (h : OwnE eInt 3 B w (.slice (some ⟨g, 0, none⟩) n cap) ys) (hd : zs.length = ys.length) :
    OwnE eInt 3 B (Sort.grow (Sort.putRow (Value.int .i64) (Sort.ahead w m) g 0 zs.toArray) os) (.slice (some ⟨g, 0, none⟩) n cap) zs := by
  obtain ⟨h1, h2⟩ := h
  have hcl : (eInt.cells zs).length = ys.length * eInt.k := by rw [eInt.cells_len, hd]
  have e1 : eInt.k = 1 := rfl
  refine ⟨by rw [hcl, hd], ?_⟩
  rcases h2 with ⟨hv, _⟩ | ⟨g', cap', cur, hv, hB, hh, hn, hc, hsz, htake⟩
  · cases hv
  · cases hv
    have hg : g < w.heap.size := (Array.getElem?_eq_some_iff.1 hh).1
    refine .inr ⟨g, cap, Sort.putCells (Value.int .i64) 0 zs.toArray cur, by rw [hd], hB, ?_, by rw [hd]; exact hn, hc, ?_, ?_⟩
    · unfold Sort.grow Sort.putRow Sort.mapBlock Sort.ahead
      show (w.heap.modify g _ ++ os)[g]? = _
      rw [Array.getElem?_append_left (by simp; omega), Array.getElem?_modify, if_pos rfl, hh]
      rfl
    · unfold Sort.putCells; rw [Array.size_mapIdx]; exact hsz
    · have hle : ys.length ≤ cur.size := by rw [hsz, e1, Nat.mul_one]; exact hn
      have hcl1 : (eInt.cells zs).length = zs.length := by rw [eInt.cells_len, e1, Nat.mul_one]
      apply List.ext_getElem
      · have e3 : (Sort.putCells (Value.int .i64) 0 zs.toArray cur).toList.length = cur.size := by unfold Sort.putCells; simp
        rw [List.length_take, e3, hcl, e1, hd]
        omega
      · intro j j1 j2
        rw [hcl1] at j2
        rw [List.getElem_take, Array.getElem_toList]
        unfold Sort.putCells
        rw [Array.getElem_mapIdx, if_pos ⟨Nat.zero_le _, by simpa using j2⟩, Nat.sub_zero]
        have k3 := eInt.cells_get zs j zs[j] (List.getElem?_eq_getElem j2) 0 (.int .i64 zs[j]) rfl
        have e : (eInt.cells zs)[j]'(by rw [hcl1]; exact j2) = .int .i64 zs[j] := by
          have := (List.getElem?_eq_some_iff.1 k3).2
          simpa [e1] using this
        rw [e]
        show Value.int .i64 (zs.toArray[j]!) = _
        rw [getElem!_pos zs.toArray j (by simpa using j2)]
        simp
theorem below_sortedI {w : World} {B g m : Nat} {zs : List Int} {os : Array Obj} (hg : B ≤ g) (hB : B ≤ w.heap.size) : Below B w (Sort.grow (Sort.putRow (Value.int .i64) (Sort.ahead w m) g 0 zs.toArray) os) := by
  refine ⟨rfl, rfl, rfl, ?_, fun k hk => ?_⟩
  · show w.heap.size ≤ (w.heap.modify g _ ++ os).size
    simp
  · show (w.heap.modify g _ ++ os)[k]? = _
    rw [Array.getElem?_append_left (by simp; omega), Array.getElem?_modify, if_neg (by omega)]

/-- slices.Sort of a row of one's own. -/
theorem sortI_any (B : Nat) (A : Option Addr) (cap : Nat) (zs : List Int) (w : World) (hown : OwnE eInt 3 B w (.slice A zs.length cap) zs) (hB : B ≤ w.heap.size) (hl : zs.length ≤ 1000000) :
    Calls Tryz.prog 161 #[.slice A zs.length cap] w fun e w' => e = .returned (.tuple #[]) ∧ OwnE eInt 3 B w' (.slice A zs.length cap) (srtI zs) ∧ Below B w w' := by
  by_cases hx : zs = []
  · subst hx
    refine (Tryz.slices_Sort_int_none A cap w).mono ?_
    rintro e w' ⟨rfl, rfl⟩
    exact ⟨rfl, by rw [show srtI [] = [] from by simp [srtI]]; exact hown, Below.refl _ _⟩
  · obtain ⟨g, cap', hv, hBg, hgl, _, hc, hf⟩ := hown.form hx
    cases hv
    have hH : Sort.Holds (Value.int .i64) w g 0 zs.toArray := by
      intro j hj
      have hj' : j < zs.length := by simpa using hj
      have := hc j zs[j] (List.getElem?_eq_getElem hj') 0 (.int .i64 zs[j]) rfl
      refine ⟨?_, hf _⟩
      rw [getElem!_pos zs.toArray j hj, Nat.zero_add]
      simpa [show eInt.k = 1 from rfl] using this
    refine (Tryz.slices_Sort_int g 0 cap zs w hH hgl (by omega)).mono ?_
    rintro e w' ⟨rfl, m, os, rfl⟩
    exact ⟨rfl, own_sortedI hown (srt_len zs), below_sortedI hBg hB⟩

set_option maxHeartbeats 1000000 in
theorem sortedI_any (bs : Nat) (A : Option Addr) (n cap : Nat) (zs : List Int) (w : World) (hS : SlE eInt w A n cap zs) (hbs : Boxed w bs 22 (.slice A n cap)) (hn : n ≤ 100000) :
    Calls Tryz.prog 95 #[.func (.func 162) #[] #[.pointer (some ⟨bs, 0, none⟩)]] w fun e w' => (∃ A' cap', e = .returned (.slice A' zs.length cap') ∧ OwnE eInt 3 w.heap.size w' (.slice A' zs.length cap') (srtI zs)) ∧ Below w.heap.size w w' := by
  have HC := Lib.hid (collectI_any bs A n cap zs w hS hbs hn)
  have hl : zs.length ≤ 100000 := by rw [← hS.1]; exact hn
  clear hS hbs
  go_enter Tryz.func95, Tryz.ntmps95
  go_wp2_with fail
  refine HC.out.mono ?_
  rintro e w1 ⟨⟨v, rfl, hown⟩, hb1⟩
  obtain ⟨A', cp, rfl, _⟩ := hown.sl
  have hz1 := hb1.size
  go_wp2_with fail
  refine (sortI_any w.heap.size A' cp zs w1 hown hz1 (by omega)).mono ?_
  rintro e w2 ⟨rfl, hown2, hb2⟩
  have hbF := hb1.trans hb2
  clear hown hb1 hb2 HC
  go_wp2_with fail
  go_ret
  exact ⟨⟨_, _, rfl, hown2⟩, hbF⟩

/-- The two middle places of a row. -/
theorem own_mid {B g cap n : Nat} {w : World} {s : List Int} (hown : OwnE eInt 3 B w (.slice (some ⟨g, 0, none⟩) n cap) s) (hx : s ≠ []) {j : Nat} (hj : j < s.length) : w.cell? ⟨g, j, none⟩ = some (.int .i64 (s.getD j 0)) := by
  obtain ⟨g', cap', hv, _, _, _, hc, _⟩ := hown.form hx
  cases hv
  have := hc j s[j] (List.getElem?_eq_getElem hj) 0 (.int .i64 s[j]) rfl
  rw [show eInt.k = 1 from rfl, Nat.mul_one, Nat.add_zero] at this
  rw [this, List.getD_eq_getElem?_getD, List.getElem?_eq_getElem hj]
  rfl

set_option maxHeartbeats 2000000 in
set_option maxRecDepth 100000 in
theorem twiceMedian_any (A : Option Addr) (n cap : Nat) (zs : List Int) (w : World) (hS : SlE eInt w A n cap zs) (hn : n ≤ 3000) (hx : zs ≠ []) (hz : ∀ z ∈ zs, 0 ≤ z ∧ z ≤ 8000000000000) :
    Calls Tryz.prog 49 #[.slice A n cap] w fun e w' => e = .returned (.int .i64 (twiceI zs)) ∧ Below w.heap.size w w' := by
  have hbB := Boxed.new w 22 (.slice A n cap)
  have hb0 : Below w.heap.size w (w.alloc (.cells #[.slice A n cap] 22)) := (Below.refl _ _).alloc (Nat.le_refl _) _
  have HS := Lib.hid (sortedI_any w.heap.size A n cap zs _ (hS.below hb0) hbB (by omega))
  have hsl := srt_len zs
  have hne := srt_ne hx
  have hb := Lib.hid (twice_bound hx hz)
  have hmm := Lib.hid (fun z (h : z ∈ srtI zs) => hz z (srt_mem h))
  have htw : Hid (twiceI zs = midS (srtI zs)) := Lib.hid rfl
  obtain ⟨R, hR⟩ : ∃ R, R = twiceI zs := ⟨_, rfl⟩
  rw [← hR] at htw hb ⊢
  obtain ⟨L, hL⟩ : ∃ L, L = zs.length := ⟨_, rfl⟩
  rw [← hL] at HS hsl
  have hLn : L ≤ 3000 := by rw [hL, ← hS.1]; exact hn
  have hL0 : 0 < L := by rw [hL]; exact List.length_pos_iff.2 hx
  generalize srtI zs = s at *
  replace hsl := Lib.hid hsl
  replace hne := Lib.hid hne
  clear hS hx hz hbB hR hL
  go_enter Tryz.func49, Tryz.ntmps49
  go_wp2_with fail
  refine (valuesI_any A n cap w).mono ?_
  rintro e w1 ⟨rfl, rfl⟩
  go_wp2_with fail
  refine HS.out.mono ?_
  rintro e w2 ⟨⟨A', cp, rfl, hown⟩, hb2⟩
  have hbw := hb0.trans (hb2.mono (by simp))
  obtain ⟨g, cap', hv, _⟩ := hown.form hne.out
  rw [hsl.out] at hv
  cases hv
  have k1 := own_mid hown hne.out (j := (L - 1) / 2) (by rw [hsl.out]; omega)
  have k2 := own_mid hown hne.out (j := L / 2) (by rw [hsl.out]; omega)
  have hsum := Lib.hid (show s.getD ((L - 1) / 2) 0 + s.getD (L / 2) 0 = R by rw [htw.out]; unfold midS; rw [hsl.out])
  generalize s.getD ((L - 1) / 2) 0 = x1 at k1 hsum
  generalize s.getD (L / 2) 0 = x2 at k2 hsum
  have hxs : IntKind.i64.wrap (x1 + x2) = x1 + x2 := by have := hb.out; have := hsum.out; exact IntWalk.i64_in _ (by omega)
  have hq1 : IntKind.i64.wrap ((L : Int) - 1) = (L : Int) - 1 := IntWalk.i64_in _ (by omega)
  have hcap : L ≤ cp := by rw [← hsl.out]; exact (hown.sl).elim fun _ h => h.elim fun _ h => by cases h.1; exact h.2.2.1
  clear hown hb2 HS hb0
  go_wp2_with fail
  go_quiet (fail)
  go_wp2_with fail
  go_ret
  exact ⟨by rw [← hsum.out]; rfl, ⟨hbw.os, hbw.tape, hbw.output, hbw.size, hbw.block⟩⟩
end Go.Proofs.YtfiocnjogbpgoaaGreatDoor
namespace Go.Proofs.YtfiocnjogbpgoaaGreatDoor
open Go.RowKit
set_option linter.unusedVariables false
set_option linter.unusedSimpArgs false

set_option maxRecDepth 100000 in
theorem differ_any (b : Nat) (m z : Int) (w : World) (hB : Boxed w b 3 (.int .i64 m)) (hm : 0 ≤ m ∧ m ≤ 8000000000000) (hz : 0 ≤ z ∧ z ≤ 8000000000000) :
    Calls Tryz.prog 98 #[.int .i64 z, .pointer (some ⟨b, 0, none⟩)] w fun e w' => e = .returned (.int .i64 (diffI m z)) ∧ w' = w := by
  have q1 := hB.cell
  have e1 : IntKind.i64.wrap (2 * z) = 2 * z := IntWalk.i64_in _ (by omega)
  have e2 : IntKind.i64.wrap (2 * z - m) = 2 * z - m := IntWalk.i64_in _ (by omega)
  have e3 : IntKind.i64.wrap (m - 2 * z) = m - 2 * z := IntWalk.i64_in _ (by omega)
  have hd : Hid (diffI m z = max (2 * z - m) (m - 2 * z)) := Lib.hid rfl
  obtain ⟨R, hR⟩ : ∃ R, R = diffI m z := ⟨_, rfl⟩
  rw [← hR] at hd ⊢
  clear hR
  go_enter Tryz.func98, Tryz.ntmps98
  go_wp2_with fail
  go_ret
  exact ⟨by rw [hd.out]; rfl, rfl⟩

set_option maxHeartbeats 2000000 in
set_option maxRecDepth 100000 in
theorem mapI_any (b : Nat) (m : Int) (A : Option Addr) (n cap : Nat) (zs : List Int) (w : World) (hB : Boxed w b 3 (.int .i64 m)) (hm : 0 ≤ m ∧ m ≤ 8000000000000) (hS : SlE eInt w A n cap zs) (hn : n ≤ 3000) (hz : ∀ z ∈ zs, 0 ≤ z ∧ z ≤ 8000000000000) :
    Calls Tryz.prog 97 #[.slice A n cap, .func (.func 98) #[] #[.pointer (some ⟨b, 0, none⟩)]] w fun e w' => (∃ A' cap', e = .returned (.slice A' zs.length cap') ∧ OwnE eInt 3 w.heap.size w' (.slice A' zs.length cap') (zs.map (diffI m))) ∧ Below w.heap.size w w' := by
  obtain ⟨i0, hi0, hz0, hz1, hz2⟩ := info_parts infoInt
  have HD := Lib.hid (fun z (hz : 0 ≤ z ∧ z ≤ 8000000000000) W (hW : Below w.heap.size w W) => differ_any b m z W ((hW.block b hB.lt).trans hB) hm hz)
  have hl := Lib.hid hS.1
  have hlen := Lib.hid (show (zs.map (diffI m)).length = n by rw [List.length_map]; exact hS.1.symm)
  replace hz := Lib.hid hz
  replace hS := Lib.hid hS
  clear hB hm
  rw [← hl.out]
  go_enter Tryz.func97, Tryz.ntmps97
  go_wp2_with (at_make; refine wpList_make_own _ rfl _ _ 22 rfl w.heap.size 3 i0 (.int .i64 0) 1 Tryz.underlying22 hi0 hz0 hz1 .i64 .i64 _ n rfl rfl rfl ?c1 ?c2 (Nat.le_refl _) ?_)
  case c1 => rw [hz2]; omega
  case c2 => unfold maxLen; omega
  intro w1 hown hg1
  have hbw : Below w.heap.size w w1 := (Below.refl _ _).grown hg1 (Nat.le_refl _) (fun k h => by cases h)
  replace hown : OwnE eInt 3 w.heap.size w1 (.slice (some ⟨w.heap.size, 0, none⟩) 0 n) [] := hown
  clear hg1
  go_wp2_with fail
  go_loopw [5, 13] (fun vo vi wr => ∃ k : Nat, k ≤ n ∧ vi = .int .i64 k ∧ OwnE eInt 3 w.heap.size wr vo ((zs.take k).map (diffI m)) ∧ Below w.heap.size w wr) (fun _ vi _ => n - (intOf vi).toNat)
  case atStart => exact ⟨0, Nat.zero_le _, rfl, hown, hbw⟩
  case round =>
    clear hown hbw
    obtain ⟨k, hk, rfl, hown, hbw⟩ := hrel
    by_cases hlt : k < n
    · obtain ⟨z, hzk⟩ : ∃ z, zs[k]? = some z := ⟨zs[k]'(by have := hl.out; omega), List.getElem?_eq_getElem _⟩
      obtain ⟨g, off, rfl, hgl, hc⟩ := (hS.out.below hbw).num hzk
      have hcap := hS.out.2.1
      have hlt' : (k : Int) < n := by omega
      have HD1 := Lib.hid (HD.out z (hz.out z (List.mem_of_getElem? hzk)))
      have hstep := Lib.hid (show (zs.take (k + 1)).map (diffI m) = (zs.take k).map (diffI m) ++ [diffI m z] by rw [List.take_add_one, hzk, List.map_append]; rfl)
      have hpl := Lib.hid (show ((zs.take k).map (diffI m)).length = k by rw [List.length_map, List.length_take]; have := hl.out; omega)
      generalize (zs.take k).map (diffI m) = pre at *
      generalize diffI m z = d at *
      clear hzk hgl HD
      go_wp2_with fail
      refine (HD1.out wr hbw).mono ?_
      rintro e w2 ⟨rfl, rfl⟩
      have hbs := hbw.size
      go_wp2_with (at_builtin; refine wpList_app tyeInt rfl _ _ rfl w.heap.size _ pre [d] rfl (hown.below ((Below.refl _ _).alloc (Nat.le_refl _) _)) ⟨_, 0, none⟩ 1 1 rfl rfl ?d1 ?d2 ?d3 ?_)
      case d1 => intro j u hj; first | exact hj | (rw [Enc.cells_single] at hj; rw [Addr.add_lit, Nat.zero_add]; exact (Blk.new w2 [.int .i64 d] 3).cell hj)
      case d2 => have := hpl.out; simp only [List.length_singleton]; omega
      case d3 => simp; omega
      intro v' w3 hown3 hg3 hd3
      have hb3 : Below w.heap.size w w3 := (hbw.alloc hbs _).grown hg3 (by simp; omega) (fun k h => (hown.lt k h).1)
      clear hg3 hd3 hown hbw HD1
      replace hown3 := Lib.hid hown3
      replace hb3 := Lib.hid hb3
      go_wp2_with fail
      go_roundw
      case rel => exact ⟨k + 1, by omega, by go_num, by rw [hstep.out]; exact hown3.out, hb3.out⟩
      case measure => simp [intOf]; omega
    · have hkn : k = n := by omega
      subst hkn
      rw [hl.out, List.take_length] at hown
      obtain ⟨A', c', rfl, _⟩ := hown.sl
      rw [hlen.out] at hown
      rw [hlen.out]
      go_wp2_with fail
      go_ret
      exact ⟨⟨_, _, rfl, hown⟩, hbw⟩
end Go.Proofs.YtfiocnjogbpgoaaGreatDoor
