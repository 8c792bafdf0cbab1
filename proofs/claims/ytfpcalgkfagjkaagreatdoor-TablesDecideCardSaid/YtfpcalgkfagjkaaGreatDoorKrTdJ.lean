/- TablesDecide: the law. -/
import Derived.Test.YtfpcalgkfagjkaaGreatDoorKrTdH
import Derived.Test.YtfpcalgkfagjkaaGreatDoorKrTdI
import Derived.Test.YtfpcalgkfagjkaaGreatDoorKrTdA
import Derived.Test.YtfpcalgkfagjkaaGreatDoorKrTbG
import Derived.Test.YtfpcalgkfagjkaaGreatDoorKrAddressed
import Derived.Test.YtfpcalgkfagjkaaGreatDoorKrLaneAddr
import Derived.Test.YtfpcalgkfagjkaaGreatDoorKrLaneC
set_option linter.unusedVariables false
set_option linter.unusedSimpArgs false
set_option maxRecDepth 100000
namespace Go.Proofs.YtfpcalgkfagjkaaGreatDoor
open Go.RowKit

theorem sq_all (E : Int) (Y : List En) (A : Option Addr) (n cap : Nat) (t : List En) (w : World) (hS : SlE eEn w A n cap t) (hn : n ≤ 100000) (hU : ∀ x ∈ t, x.p.1.U) (hE : tabF t = E) (h1 : E = 0 → Y = sqT t) (h2 : E ≠ 0 → Y = []) :
    Calls Tryz.prog 11 #[.slice A n cap] w fun e w' => ∃ A' m c, e = .returned (.tuple #[.slice A' m c, .int .i64 E]) ∧ SlE eEn w' A' m c Y ∧ Below w.heap.size w w' := by
  by_cases h0 : E = 0
  · rw [h1 h0, h0]
    refine (squeeze_ok A n cap t w hS hn hU (hE.trans h0)).mono ?_
    rintro e w' ⟨v, rfl, hO, hb⟩
    obtain ⟨A', c, rfl, hS'⟩ := hO.sl
    exact ⟨A', _, c, rfl, hS', hb⟩
  · rw [h2 h0]
    refine (squeeze_bad E A n cap t w hS hn hU hE h0).mono ?_
    rintro e w' ⟨rfl, hb⟩
    exact ⟨none, 0, 0, rfl, ⟨rfl, Nat.le_refl _, fun _ => rfl, .inl rfl⟩, hb⟩
theorem adQ_self (a : Ad) : adQ a.s a.s a.hi a.lo a.hi a.lo = true := by unfold adQ; simp
theorem run_eqA (a : Ad) (x y : Operand) (w : World) : (eqAd x y (adA a) (adA a)).run Tryz.prog w = .ok (.value (.bool true)) w := by
  have h := run_eqAd x y a.s a.s a.hi a.lo a.hi a.lo w
  rw [adQ_self] at h
  exact h
theorem SlE.rowT {α : Type} {E : Enc α} {w0 w : World} {A : Option Addr} {n cap p : Nat} {xs : List α} (h0 : SlE E w0 A n cap xs) (h : SlE E w A n cap xs) (hp : w0.heap.size ≤ p) (cs : Array Value) : SlE E (w.setRow p cs) A n cap xs := by
  rcases h0.2.2.2 with k | ⟨g, off, hA, hlt, _⟩
  · exact ⟨h.1, h.2.1, h.2.2.1, .inl k⟩
  · refine h.gbr (gb_setRow cs) (fun g' off' hA' e => ?_)
    rw [hA] at hA'
    injection hA' with hA'
    injection hA' with e1 _ _
    injection e with e
    omega
def IsBl (b : Bool) (v : Value) : Prop := ∃ c : Bool, v = .bool c ∧ c = b
def TabQ (w4 : World) (b : Nat) (v : Value) (wx : World) : Prop := ∃ (A' : Option Addr) (n' cap' : Nat) (y : List En), v = .slice A' n' cap' ∧ SlE eEn wx A' n' cap' y ∧ (∀ x ∈ y, x.p.1.U ∧ x.nm.length ≤ 100) ∧ n' ≤ 7 ∧ w4.grownBy wx (some b)
theorem sl_ne {t : List En} {A : Option Addr} {n cap b g0 : Nat} {w w' : World} (h : SlE eEn w A n cap t) (hO : t = [] ∨ ∃ g, A = some ⟨g, 0, none⟩ ∧ g0 ≤ g) (hb : b < g0) (hg : w.grownBy w' (some b)) : SlE eEn w' A n cap t := by
  rcases hO with rfl | ⟨g, rfl, hg0⟩
  · refine ⟨h.1, h.2.1, h.2.2.1, .inl h.1⟩
  · exact h.gbr hg (fun g' off hA e => by injection hA with hA; injection hA with e1 _ _; injection e with e; omega)
theorem addr_look {t : List En} {a : Ad} {E3 : Int} (h : firstZ [tabF t, adF a.s a.hi a.lo] = E3) (h0 : E3 = 0) (hU : ∀ x ∈ t, x.p.1.U) (ha : a.U) : TbG t ∧ a.R := by
  rw [← h] at h0
  obtain ⟨h1, h2⟩ := (firstZ_both _ _).1 h0
  exact ⟨tbG_tab hU h1, ha, (adF_iff ha).1 h2⟩
theorem tbG_names {t : List En} (h : TbG t) : ∀ x ∈ t, x.nm ≠ [] := fun x hx e => by
  have h1 := (h.1 x hx).2
  rw [e] at h1
  exact absurd h1 (by decide)

set_option maxHeartbeats 8000000 in
theorem tablesDecide_walk (a : Option Addr) (len cap : Nat) (w : World) (hs0 : Str (w.alloc (.cells #[.slice a len cap, .int .i64 0] 25)) w.heap.size 1000) :
    Calls Tryz.prog 3 #[.slice a len cap] w fun e w' => e = .returned (.bool true) ∧ Below w.heap.size w w' := by
  go_enter Tryz.func3, Tryz.ntmps3
  go_wp2_with fail
  obtain ⟨w0, hw0⟩ : ∃ w0, w0 = w.alloc (.cells #[.slice a len cap, .int .i64 0] 25) := ⟨_, rfl⟩
  have hz0 : w0.heap.size = w.heap.size + 1 := by rw [hw0]; simp
  have hB0 := Lib.hid (show Below w.heap.size w w0 by rw [hw0]; exact (Below.refl _ _).alloc (Nat.le_refl _) _)
  rw [← hw0] at hs0 ⊢
  clear hw0
  obtain ⟨b, hb⟩ : ∃ b, b = w.heap.size := ⟨_, rfl⟩
  rw [← hb] at hz0 hs0 ⊢
  replace hb := Lib.hid hb
  refine (table_any w0 b 900 (hs0.le (by omega))).mono ?_
  rintro e w1 ⟨At, nt, ct, t, rfl, hSt, hTt, hnt, hOt, hs1, hg⟩
  replace hTt := Lib.hid hTt
  replace hOt := Lib.hid hOt
  have hbl0 := hs0.lt
  have hbl1 := hs1.lt
  clear hs0
  go_wp2_with fail
  refine (table_any w1 b 800 (hs1.le (by omega))).mono ?_
  rintro e w2 ⟨Au, nu, cu, y0, rfl, hSu, hTu, hnu, hOu, hs2, hg2⟩
  have hgs := hg.size
  replace hTu := Lib.hid hTu
  replace hOu := Lib.hid hOu
  replace hSt := sl_ne hSt hOt.out (by omega) hg2
  replace hg := gb_trans hg hg2
  clear hs1 hg2
  go_wp2_with fail
  refine (raw_any w2 b 700 (hs2.le (by omega))).mono ?_
  rintro e w3 ⟨s, hi, lo, hA, rfl, hs3, hg3⟩
  obtain ⟨ad, had⟩ : ∃ ad : Ad, ad = ⟨s, hi, lo⟩ := ⟨_, rfl⟩
  have haU := Lib.hid (show ad.U by rw [had]; exact ⟨hA.1, hA.2⟩)
  have hav : adV s hi lo = adA ad := by rw [had]; rfl
  rw [hav]
  clear had hav hA
  replace hSt := sl_ne hSt hOt.out (by omega) hg3
  replace hSu := sl_ne hSu hOu.out (by omega) hg3
  replace hg := gb_trans hg hg3
  clear hs2 hg3
  have S1 := stT_new rowAd (te := 30) w3 w3.heap.size rfl [.bool false, .int .u64 0, .int .u64 0] (adC ad) rfl rfl (adC_one ad)
  have hC := Blk.new w3 (adC ad) 30
  have hv3 : Below w3.heap.size w3 (w3.alloc (.cells (adC ad).toArray 30)) := (Below.refl _ _).alloc (Nat.le_refl _) _
  have hw3 : w0.heap.size ≤ w3.heap.size := hg.size
  replace hSt := Lib.hid (hSt.below hv3)
  replace hSu := Lib.hid (hSu.below hv3)
  replace hs3 := hs3.alloc (.cells (adC ad).toArray 30)
  replace hg := gb_alloc hg (.cells (adC ad).toArray 30)
  have hB4 := Lib.hid (show Below w.heap.size w (w3.alloc (.cells (adC ad).toArray 30)) from hB0.out.trans (gb_toBelow hg (Nat.le_of_eq hb.out.symm) (by omega)))
  clear hv3 hB0
  go_upto_region 3 with fail
  clear S1
  have hpb : b < w3.heap.size := by omega
  generalize w3.alloc (.cells (adC ad).toArray 30) = w4 at *
  generalize w3.heap.size = p at *
  replace hC := Lib.hid hC
  have hsz4 : b < w4.heap.size := hs3.lt
  clear hg hgs hw3 hz0
  go_cut [33] (fun v33 wx => ∃ fl : Bool, v33 = .bool fl ∧ Str wx b 600 ∧ w4.grownBy wx (some b))
  case first =>
    go_wp2_with fail
    refine (flip_any 2 w4 b 600 (by decide) (by decide) (hs3.le (by omega))).mono ?_
    rintro e w5 ⟨fl, rfl, hs5, hg5⟩
    go_wp2_with fail
    go_meet
    exact ⟨fl, rfl, hs5, hg5⟩
  case rest =>
  obtain ⟨fl, rfl, hs5, hg5⟩ := hcut
  obtain ⟨w5, hwx5⟩ : ∃ x, x = wc := ⟨_, rfl⟩
  subst hwx5
  clear hs3
  go_upto_if 33 with fail
  go_cut [5] (fun v5 wx => TabQ w4 b v5 wx)
  case first =>
    have hSt5 := sl_ne hSt.out hOt.out (by omega) hg5
    have hSu5 := sl_ne hSu.out hOu.out (by omega) hg5
    cases fl with
    | false =>
      go_wp2_with fail
      go_meet
      exact ⟨Au, nu, cu, y0, rfl, hSu5, hTu.out, hnu, hg5⟩
    | true =>
      have HC := Lib.hid (cloneEn_any At nt ct t w5 hSt5 (by omega))
      have hnl := Lib.hid hSt5.1
      have hw5 := hs5.lt
      have hz5 := hg5.size
      clear hSt5 hSu5
      go_wp2_with fail
      refine HC.out.mono ?_
      rintro e w6 ⟨v, rfl, hown, hv1⟩
      have hs6 : Str w6 b 600 := hs5.below hv1
      have hg6 := gb_below hg5 hv1
      clear HC hs5 hv1 hg5
      by_cases h0 : nt = 0
      · subst h0
        have ht : t = [] := List.eq_nil_of_length_eq_zero hnl.out.symm
        subst ht
        obtain ⟨Ac, cc, rfl, hSc⟩ := hown.sl
        go_wp2_with fail
        go_meet
        exact ⟨Ac, 0, cc, [], rfl, hSc, hTt.out, by omega, hg6⟩
      · obtain ⟨g, cc, rfl, hg1, hg2, hcap, _⟩ := hown.form (by intro e; rw [e] at hnl; exact h0 hnl.out)
        rw [← hnl.out] at hcap hown ⊢
        have hN := ownN_all hown hnl.out
        have hpos : (0 : Int) < nt := by omega
        have hgb : (some b : Option Nat) ≠ some g := fun e => by injection e with e; omega
        clear hown
        go_wp2_with fail
        refine (flip_any 2 w6 b 500 (by decide) (by decide) (hs6.le (by omega))).mono ?_
        rintro e w7 ⟨fl, rfl, hs7, hg7⟩
        replace hN := hN.gb hg7 hgb
        replace hg6 := gb_trans hg6 hg7
        clear hs6 hg7
        cases fl with
        | false =>
          go_wp2_with fail
          go_meet
          exact ⟨_, nt, cc, t, rfl, hN.sl nt hnl.out (by omega), hTt.out, hnt, hg6⟩
        | true =>
          go_wp2_with fail
          refine (next_any nt w7 b 400 (by omega) (by omega) (hs7.le (by omega))).mono ?_
          rintro e w8 ⟨r, ⟨hr1, hr2⟩, rfl, hs8, hg8⟩
          obtain ⟨k, rfl⟩ := Int.eq_ofNat_of_zero_le hr1
          have hkn : k < nt := by omega
          obtain ⟨x, hx⟩ : ∃ x, t[k]? = some x := ⟨t[k]'(by have := hnl.out; omega), List.getElem?_eq_getElem _⟩
          replace hx := Lib.hid hx
          replace hN := hN.gb hg8 hgb
          replace hg6 := gb_trans hg6 hg8
          clear hs7 hg8 hr1
          have hL := Blk.new w8 [.string ⟨#[97]⟩, .string ⟨#[98]⟩] 9
          have hga := World.grownBy_alloc w8 (.cells #[.string ⟨#[97]⟩, .string ⟨#[98]⟩] 9) none
          replace hN := hN.gb hga (by intro e; cases e)
          replace hs8 := hs8.alloc (.cells #[.string ⟨#[97]⟩, .string ⟨#[98]⟩] 9)
          have hw8 := hg6.size
          replace hg6 := gb_alloc hg6 (.cells #[.string ⟨#[97]⟩, .string ⟨#[98]⟩] 9)
          have HK := Lib.hid (someSh_any _ b 300 w8.heap.size 2 2 _ _ (hs8.le (by omega)) (by omega) hL rfl (by decide) (by decide) (by decide))
          clear hL hs8 hga
          go_wp2_with fail
          refine HK.out.mono ?_
          rintro e w9 ⟨nm, hnm, rfl, hs9, hg9⟩
          replace hN := hN.gb hg9 hgb
          replace hg6 := gb_trans hg6 hg9
          have c4 := hN.cell hx.out (i := 4) (v := .string ⟨x.nm.toArray⟩) rfl
          have f4 := hN.free (k * 5 + 4)
          have hi1 : (k : Int) < nt := by omega
          have hN2 := hN.put hx.out 4 [.string ⟨nm.toArray⟩] (by simp) ⟨x.p, nm⟩ (setL_name x nm)
          have hS2 := Lib.hid (hN2.sl nt (by rw [List.length_set]; exact hnl.out) (by omega))
          have hg10 := Lib.hid (gb_setNew (p := ⟨g, k * 5 + 4, none⟩) hg6 (by show w4.heap.size ≤ g; omega) (.string ⟨nm.toArray⟩))
          have hT2 := Lib.hid (show ∀ z ∈ t.set k ⟨x.p, nm⟩, z.p.1.U ∧ z.nm.length ≤ 100 from fun z hz => by
            rcases List.mem_or_eq_of_mem_set hz with h | rfl
            · exact hTt.out z h
            · exact ⟨(hTt.out x (List.mem_of_getElem? hx.out)).1, hnm⟩)
          clear HK hg9 hN hN2 hg6
          go_wp2_with fail
          go_meet
          exact ⟨_, nt, cc, _, rfl, hS2.out, hT2.out, hnt, hg10.out⟩
  case rest =>
  obtain ⟨A', n', cap', y, rfl, hSy, hTy, hny, hg⟩ := hcut
  obtain ⟨wx, hwx⟩ : ∃ x, x = wc := ⟨_, rfl⟩
  subst hwx
  have hSt' := sl_ne hSt.out hOt.out (by omega) hg
  have hC' := Lib.hid (hC.out.gb hg hpb)
  have hB5 := Lib.hid (hB4.out.trans (gb_toBelow hg (Nat.le_of_eq hb.out.symm) (Nat.le_of_lt hsz4)))
  replace hTy := Lib.hid hTy
  clear hSt hSu hOt hOu hTu hC hB4 hg hs5 hg5 hpb hsz4
  have hbw := Below.refl wx.heap.size wx
  have hUt := Lib.hid (fun x hx => (hTt.out x hx).1)
  have hUy := Lib.hid (fun x hx => (hTy.out x hx).1)
  replace hSt' := Lib.hid hSt'
  replace hSy := Lib.hid hSy
  obtain ⟨E1, hE1⟩ : ∃ E, tabF t = E := ⟨_, rfl⟩
  obtain ⟨Ey, hEy⟩ : ∃ E, tabF y = E := ⟨_, rfl⟩
  obtain ⟨Ea, hEa⟩ : ∃ E, adF ad.s ad.hi ad.lo = E := ⟨_, rfl⟩
  obtain ⟨E3, hE3⟩ : ∃ E, firstZ [E1, Ea] = E := ⟨_, rfl⟩
  obtain ⟨E2, hE2⟩ : ∃ E, firstZ [E1, Ey] = E := ⟨_, rfl⟩
  obtain ⟨Y, hY⟩ : ∃ Y : List En, Y = if E1 = 0 then sqT t else [] := ⟨_, rfl⟩
  have hY1 := Lib.hid (show E1 = 0 → Y = sqT t from fun h => by rw [hY, if_pos h])
  have hY2 := Lib.hid (show E1 ≠ 0 → Y = [] from fun h => by rw [hY, if_neg h])
  clear hY
  have hYl := Lib.hid (show Y.length ≤ 7 from by
    by_cases h : E1 = 0
    · rw [hY1.out h]
      have h1 := hSt'.out.1
      have h2 : (sqT t).length ≤ t.length := List.length_filter_le _ _
      omega
    · rw [hY2.out h]; exact Nat.zero_le _)
  have HLK := Lib.hid (fun W (hW : Below wx.heap.size wx W) => lookup_any E3 At nt ct t ad W (hSt'.out.below hW) (by omega) hUt.out haU.out (by rw [hE1, hEa]; exact hE3))
  have HSQ := Lib.hid (fun W (hW : Below wx.heap.size wx W) => sq_all E1 Y At nt ct t W (hSt'.out.below hW) (by omega) hUt.out hE1 hY1.out hY2.out)
  have HDF := Lib.hid (fun W (hW : Below wx.heap.size wx W) => differT_any E2 At nt ct t A' n' cap' y W (hSt'.out.below hW) (by omega) hUt.out (hSy.out.below hW) (by omega) hUy.out (by rw [hE1, hEy]; exact hE2))
  have HT1 := Lib.hid (fun W (hW : Below wx.heap.size wx W) => tableFault_any E1 At nt ct t W (hSt'.out.below hW) (by omega) hUt.out (fun x hx => by have := (hTt.out x hx).2; omega) hE1.symm)
  have HT2 := Lib.hid (fun W (hW : Below wx.heap.size wx W) => tableFault_any Ey A' n' cap' y W (hSy.out.below hW) (by omega) hUy.out (fun x hx => by have := (hTy.out x hx).2; omega) hEy.symm)
  have HCT := Lib.hid (fun W (hW : Below wx.heap.size wx W) => checkTable_any E1 At nt ct t W (hSt'.out.below hW) (by omega) hUt.out hE1.symm)
  have HAF := Lib.hid (fun W => by have h := addrFault_any ad.s ad.hi ad.lo W haU.out.1.1; rw [hEa] at h; exact h)
  have hL3 := Lib.hid (fun h0 : E3 = 0 => addr_look (by rw [hE1, hEa]; exact hE3) h0 hUt.out haU.out)
  have hG1 := Lib.hid (fun h0 : E1 = 0 => tbG_tab hUt.out (hE1.trans h0))
  have hG2 := Lib.hid (fun h0 : E2 = 0 => (⟨tbG_tab hUt.out (hE1.trans ((firstZ_both _ _).1 (hE2.trans h0)).1), tbG_tab hUy.out (hEy.trans ((firstZ_both _ _).1 (hE2.trans h0)).2)⟩ : TbG t ∧ TbG y))
  clear hE1 hEy hEa hTt hTy hUt hUy
  replace hE2 := Lib.hid hE2
  replace hE3 := Lib.hid hE3
  have k1 := hC'.out.ldAt rowAd 0 (adC ad) [] rfl rfl
  go_wp2_with fail
  refine (HLK.out _ hbw).mono ?_
  rintro e x1 ⟨sl, rfl, hsl1, hsl2, hv1⟩
  replace hsl1 := Lib.hid hsl1
  replace hsl2 := Lib.hid hsl2
  obtain ⟨bl, hbl⟩ : ∃ bl, bl = !sl.isEmpty := ⟨_, rfl⟩
  rw [← hbl]
  replace hbl := Lib.hid hbl
  replace hbw := hbw.trans (hv1.mono hbw.size)
  clear hv1 k1 HLK
  go_wp2_with fail
  refine (HSQ.out _ hbw).mono ?_
  rintro e x2 ⟨Aq, nq, cq, rfl, hSq, hv1⟩
  replace hbw := hbw.trans (hv1.mono hbw.size)
  replace hSq := Lib.hid hSq
  clear hv1 HSQ
  go_wp2_with fail
  refine (HDF.out _ hbw).mono ?_
  rintro e x3 ⟨db, di, rfl, hdp, hv1⟩
  replace hdp := Lib.hid hdp
  replace hSq := Lib.hid (hSq.out.below hv1)
  replace hbw := hbw.trans (hv1.mono hbw.size)
  clear hv1 HDF
  have S1 := stT_new rowAd (te := 30) x3 x3.heap.size rfl [.bool false, .int .u64 0, .int .u64 0] (adC db) rfl rfl (adC_one db)
  have hD := Blk.new x3 (adC db) 30
  go_upto_region 10 with fail
  clear S1
  have hbn : Below x3.heap.size x3 (x3.alloc (.cells (adC db).toArray 30)) := (Below.refl _ _).alloc (Nat.le_refl _) _
  replace hSq := Lib.hid (hSq.out.below hbn)
  replace hbw := hbw.trans (hbn.mono hbw.size)
  clear hbn
  generalize x3.alloc (.cells (adC db).toArray 30) = x4 at *
  generalize x3.heap.size = pd at *
  go_wp2_with fail
  refine (HT1.out _ hbw).mono ?_
  rintro e x5 ⟨rfl, hv1⟩
  replace hSq := Lib.hid (hSq.out.below hv1)
  replace hD := hD.below hv1
  replace hbw := hbw.trans (hv1.mono hbw.size)
  clear hv1
  go_wp2_with fail
  refine (HT1.out _ hbw).mono ?_
  rintro e x6 ⟨rfl, hv1⟩
  replace hSq := Lib.hid (hSq.out.below hv1)
  replace hD := hD.below hv1
  replace hbw := hbw.trans (hv1.mono hbw.size)
  clear hv1 HT1
  go_wp2_with fail
  refine (HT2.out _ hbw).mono ?_
  rintro e x7 ⟨rfl, hv1⟩
  replace hSq := Lib.hid (hSq.out.below hv1)
  replace hD := hD.below hv1
  replace hbw := hbw.trans (hv1.mono hbw.size)
  clear hv1 HT2
  have hz := hbw.size
  have hN := Blk.new x7 ([E1, Ey].map (Value.int .i64)) 40
  have HE := Lib.hid (errs_blk [E1, Ey] x7.heap.size 2 _ _ hN (by simp))
  have hbn : Below x7.heap.size x7 (x7.alloc (.cells ([E1, Ey].map (Value.int .i64)).toArray 40)) := (Below.refl _ _).alloc (Nat.le_refl _) _
  rw [hE2.out] at HE
  replace hSq := Lib.hid (hSq.out.below hbn)
  replace hD := hD.below hbn
  replace hbw := hbw.trans (hbn.mono hbw.size)
  clear hN hbn hz
  go_wp2_with fail
  refine HE.out.mono ?_
  rintro e x8 ⟨rfl, hw8⟩
  rw [hw8] at hSq hD hbw
  clear HE hw8
  have k1 := (hC'.out.below hbw).ldAt rowAd 0 (adC ad) [] rfl rfl
  go_wp2_with fail
  refine (HAF.out _).mono ?_
  rintro e x9 ⟨rfl, hv1⟩
  replace hSq := Lib.hid (hSq.out.below hv1)
  replace hD := hD.below hv1
  replace hbw := hbw.trans (hv1.mono hbw.size)
  clear hv1 HAF k1
  have hz := hbw.size
  have hN := Blk.new x9 ([E1, Ea].map (Value.int .i64)) 40
  have HE := Lib.hid (errs_blk [E1, Ea] x9.heap.size 2 _ _ hN (by simp))
  have hbn : Below x9.heap.size x9 (x9.alloc (.cells ([E1, Ea].map (Value.int .i64)).toArray 40)) := (Below.refl _ _).alloc (Nat.le_refl _) _
  rw [hE3.out] at HE
  replace hSq := Lib.hid (hSq.out.below hbn)
  replace hD := hD.below hbn
  replace hbw := hbw.trans (hbn.mono hbw.size)
  clear hN hbn hz
  go_wp2_with fail
  refine HE.out.mono ?_
  rintro e xa ⟨rfl, hwa⟩
  rw [hwa] at hSq hD hbw
  clear HE hwa
  go_wp2_with fail
  refine (HCT.out _ hbw).mono ?_
  rintro e xb ⟨rfl, hv1⟩
  replace hSq := Lib.hid (hSq.out.below hv1)
  replace hD := hD.below hv1
  replace hbw := hbw.trans (hv1.mono hbw.size)
  clear hv1 HCT hE2 hE3
  go_upto_if 105 with fail
  go_cut [18, 19] (fun v18 v19 wy => (∃ s2 : List UInt8, v18 = .string ⟨s2.toArray⟩ ∧ Hid (s2 = sl)) ∧ IsBl bl v19 ∧ Below xb.heap.size xb wy)
  case first =>
    by_cases h0 : E3 = 0
    · have b0 : (E3 == 0) = true := by simp [h0]
      obtain ⟨hGt, haR⟩ := hL3.out h0
      have HL := Lib.hid (lookOf_any At nt ct t ad xb (hSt'.out.below hbw) (by omega) hGt.d haR)
      rw [hasT_look (fun x hx => (hGt.1 x hx).1) (tbG_names hGt), ← hsl1.out h0, ← hbl.out] at HL
      have k1 := (hC'.out.below hbw).ldAt rowAd 0 (adC ad) [] rfl rfl
      clear hGt haR h0
      go_wp2_with fail
      refine HL.out.mono ?_
      rintro e xc ⟨rfl, hv1⟩
      go_wp2_with fail
      go_meet
      exact ⟨⟨_, rfl, Lib.hid rfl⟩, ⟨_, rfl, rfl⟩, hv1⟩
    · have b0 : (E3 == 0) = false := by simp [h0]
      have e1 := hsl2.out h0
      subst e1
      have e2 : bl = false := hbl.out
      subst e2
      clear h0
      go_wp2_with fail
      go_meet
      exact ⟨⟨_, rfl, Lib.hid rfl⟩, ⟨_, rfl, rfl⟩, Below.refl _ _⟩
  case rest =>
  obtain ⟨⟨s2, rfl, hs2⟩, ⟨b2, rfl, hb2⟩, hv1⟩ := hcut
  replace hb2 := Lib.hid hb2
  obtain ⟨wy, hwy⟩ : ∃ x, x = wc := ⟨_, rfl⟩
  subst hwy
  replace hSq := Lib.hid (hSq.out.below hv1)
  replace hD := hD.below hv1
  replace hbw := hbw.trans (hv1.mono hbw.size)
  clear hv1 hL3 hsl1 hsl2 hbl
  go_upto_if 113 with fail
  go_cut [20] (fun v20 wz => ∃ (A2 : Option Addr) (n2 c2 : Nat), v20 = .slice A2 n2 c2 ∧ SlE eEn wz A2 n2 c2 Y ∧ Below wy.heap.size wy wz)
  case first =>
    by_cases h0 : E1 = 0
    · have b0 : (E1 == 0) = true := by simp [h0]
      have HS := Lib.hid (squeezeOf_any At nt ct t wy (hSt'.out.below hbw) (hG1.out h0))
      rw [← hY1.out h0] at HS
      clear h0
      go_wp2_with fail
      refine HS.out.mono ?_
      rintro e xc ⟨A2, n2, c2, rfl, hS2, hv1⟩
      replace hS2 := Lib.hid hS2
      go_wp2_with fail
      go_meet
      exact ⟨A2, n2, c2, rfl, hS2.out, hv1⟩
    · have b0 : (E1 == 0) = false := by simp [h0]
      have e1 := hY2.out h0
      subst e1
      clear h0
      go_wp2_with fail
      go_meet
      exact ⟨none, 0, 0, rfl, ⟨rfl, Nat.le_refl _, fun _ => rfl, .inl rfl⟩, Below.refl _ _⟩
  case rest =>
  obtain ⟨A2, n2, c2, rfl, hS2, hv1⟩ := hcut
  obtain ⟨wz, hwz⟩ : ∃ x, x = wc := ⟨_, rfl⟩
  subst hwz
  replace hSq := Lib.hid (hSq.out.below hv1)
  replace hS2 := Lib.hid hS2
  replace hD := hD.below hv1
  replace hbw := hbw.trans (hv1.mono hbw.size)
  clear hv1 hG1 hY1 hY2
  have Q0 := fun w' => run_build (P := Tryz.prog) w' 30 #[] (adC ⟨false, 0, 0⟩).toArray (by kernel_rfl)
  have S1 : (stT 30 (.pointer (some ⟨wz.heap.size, 0, none⟩)) (.agg #[.bool false, .int .u64 0, .int .u64 0])).run Tryz.prog (wz.alloc (.cells #[.bool false, .int .u64 0, .int .u64 0] 30)) = .ok .skip (wz.alloc (.cells (adC ⟨false, 0, 0⟩).toArray 30)) := stT_new rowAd (te := 30) wz wz.heap.size rfl [.bool false, .int .u64 0, .int .u64 0] (adC ⟨false, 0, 0⟩) rfl rfl (adC_one ⟨false, 0, 0⟩)
  have hZ := Blk.new wz (adC ⟨false, 0, 0⟩) 30
  go_upto_region 21 with fail
  clear S1 Q0
  have hbn : Below wz.heap.size wz (wz.alloc (.cells (adC ⟨false, 0, 0⟩).toArray 30)) := (Below.refl _ _).alloc (Nat.le_refl _) _
  have hSq0 := hSq
  have hS20 := hS2
  have hDl := hD.lt
  replace hSq := Lib.hid (hSq.out.below hbn)
  replace hS2 := Lib.hid (hS2.out.below hbn)
  replace hD := hD.below hbn
  have hzx : wx.heap.size ≤ wz.heap.size := hbw.size
  replace hbw := hbw.trans (hbn.mono hbw.size)
  clear hbn
  obtain ⟨pz, hpz⟩ : ∃ p, p = wz.heap.size := ⟨_, rfl⟩
  generalize wz.alloc (.cells (adC ⟨false, 0, 0⟩).toArray 30) = wa at *
  rw [← hpz] at hZ hzx hDl ⊢
  replace hpz := Lib.hid (Nat.le_of_eq hpz.symm)
  go_upto_if 118 with fail
  go_cut [22] (fun v22 we => IsBl di v22 ∧ Blk we pz (adC db) 30 ∧ SlE eEn we Aq nq cq Y ∧ SlE eEn we A2 n2 c2 Y ∧ Blk we pd (adC db) 30 ∧ Below wx.heap.size wx we)
  case first =>
    by_cases h0 : E2 = 0
    · have b0 : (E2 == 0) = true := by simp [h0]
      have hd := hdp.out
      rw [h0] at hd
      have HR := Lib.hid (differOf_any At nt ct t A' n' cap' y wa (hSt'.out.below hbw) (hG2.out h0).1 (hSy.out.below hbw) (hG2.out h0).2)
      replace hd := Lib.hid hd
      clear h0
      go_wp2_with fail
      refine HR.out.mono ?_
      rintro e wb ⟨b', is', rfl, hd', hv1⟩
      obtain ⟨rfl, rfl⟩ := hd.out.unique hd'
      replace hZ := hZ.below hv1
      replace hSq := hSq.out.below hv1
      replace hS2 := hS2.out.below hv1
      replace hD := hD.below hv1
      replace hbw := hbw.trans (hv1.mono hbw.size)
      have S8 := stT_row rowAd hZ rfl (adC_len db) (adC_one db)
      have hZ2 := hZ.row (adC db)
      have hbw2 := below_row hbw hzx (adC db).toArray
      have hq1 := Lib.hid (SlE.rowT hSq0.out hSq hpz.out (adC db).toArray)
      have hq2 := Lib.hid (SlE.rowT hS20.out hS2 hpz.out (adC db).toArray)
      have hD2 : Blk (wb.setRow pz (adC db).toArray) pd (adC db) 30 := ((gb_setRow (adC db).toArray).block pd hD.lt (by first | (intro e; injection e with e; omega) | (intro e; cases e; omega))).trans hD
      clear hv1 hd hd' HR hZ hSq hS2 hD hbw
      go_wp2_with fail
      go_meet
      exact ⟨⟨_, rfl, rfl⟩, hZ2, hq1.out, hq2.out, hD2, hbw2⟩
    · have b0 : (E2 == 0) = false := by simp [h0]
      obtain ⟨e1, e2⟩ := hdp.out.bad h0
      subst e1
      subst e2
      clear h0
      go_wp2_with fail
      go_meet
      exact ⟨⟨_, rfl, rfl⟩, hZ, hSq.out, hS2.out, hD, hbw⟩
  case rest =>
  clear hZ hSq hS2 hD hbw
  obtain ⟨⟨d2, rfl, hd2⟩, hZ, hSq, hS2, hD, hbw⟩ := hcut
  have hl1 := hSq.1
  have hl2 := hS2.1
  have hl3 := hYl.out
  have hl4 : nq ≤ 1000000 := by omega
  have hl5 : n2 ≤ 1000000 := by omega
  have HE := Lib.hid (equalEn_any Aq A2 nq n2 cq c2 Y Y _ hSq hS2 hl4 hl5)
  clear hl3 hl4 hl5
  have q1 : (sl == s2) = true := by rw [hs2.out]; simp
  have hb3 := hb2.out
  subst hb3
  subst hd2
  clear hb2
  replace hdp := Lib.hid True.intro
  clear hSq hS2 hl1 hl2
  cases b2 <;> cases d2
  all_goals (
    go_wp2_with fail
    refine HE.out.mono ?_
    rintro e wf ⟨r, rfl, hr, hv1⟩
    obtain rfl : r = true := hr.2 (by trivial)
    replace hZ := hZ.below hv1
    replace hD := hD.below hv1
    replace hbw := hbw.trans (hv1.mono hbw.size)
    clear hv1 hr HE
    have k1 := hD.ldAt rowAd 0 (adC db) [] rfl rfl
    have k2 := hZ.ldAt rowAd 0 (adC db) [] rfl rfl
    have k3 := run_eqA db
    go_wp2_with fail
    refine (addressed_any _).mono ?_
    rintro e wg ⟨rfl, hv1⟩
    have hfin := Lib.hid (hB5.out.trans ((hbw.trans (hv1.mono hbw.size)).mono hB5.out.size))
    clear hv1 k1 k2 k3
    go_wp2_with fail
    go_ret
    exact ⟨rfl, hfin.out⟩)
end Go.Proofs.YtfpcalgkfagjkaaGreatDoor
