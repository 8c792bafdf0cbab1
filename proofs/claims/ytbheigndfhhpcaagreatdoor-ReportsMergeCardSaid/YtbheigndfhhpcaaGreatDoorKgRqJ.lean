/- ReportsMerge: the law. -/
import Derived.Test.YtbheigndfhhpcaaGreatDoorKgRqG
import Derived.Test.YtbheigndfhhpcaaGreatDoorKgMdI
namespace Go.Proofs.YtbheigndfhhpcaaGreatDoor
open Go.RowKit
set_option linter.unusedVariables false
set_option linter.unusedSimpArgs false

theorem SlE.dropG {α : Type} {E : Enc α} {w : World} {g off n cap h : Nat} {ls : List α} (hS : SlE E w (some ⟨g, off, none⟩) n cap ls) (hh : h ≤ n) : SlE E w (some ⟨g, off + h * E.k, none⟩) (n - h) (cap - h) (ls.drop h) := by
  obtain ⟨h1, h2, h3, h4⟩ := hS
  refine ⟨by rw [List.length_drop]; omega, by omega, (fun e => by cases e), ?_⟩
  rcases h4 with h4 | ⟨g', off', hA, hlt, hc⟩
  · exact .inl (by omega)
  · cases hA
    refine .inr ⟨_, _, rfl, hlt, fun k x hx i v hv => ?_⟩
    rw [List.getElem?_drop] at hx
    have := hc (h + k) x hx i v hv
    rwa [show off + h * E.k + k * E.k + i = off + (h + k) * E.k + i by rw [Nat.add_mul]; omega]
theorem errs_blkR (l : List Int) (p cap : Nat) (w : World) (t : TypeId) (h : Blk w p (l.map (Value.int .i64)) t) (hl : l.length ≤ 100) :
    Calls Tryz.prog 13 #[.slice (some ⟨p, 0, none⟩) l.length cap] w fun e w' => e = .returned (.int .i64 (firstZ l)) ∧ w = w' :=
  errs_any l p cap w (fun i hi => h.cell (by rw [List.getElem?_map, List.getElem?_eq_getElem hi, List.getD_eq_getElem?_getD, List.getElem?_eq_getElem hi]; rfl)) hl
/-- What two lists that are made one give: an error, or the list. -/
def Res (ms : List Rp) (E : Int) (zs : List Rp) : Prop := (Conf ms ∧ E = 13 ∧ zs = []) ∨ ∃ ys, Mg ms ys ∧ ((3000 < ys.length ∧ E = 2 ∧ zs = []) ∨ (ys.length ≤ 3000 ∧ E = 0 ∧ zs = ys))
theorem Res.unique {ms : List Rp} {E E' : Int} {zs zs' : List Rp} (h : Res ms E zs) (h' : Res ms E' zs') : E' = E ∧ zs' = zs := by
  rcases h with ⟨hc, rfl, rfl⟩ | ⟨ys, hm, hr⟩
  · rcases h' with ⟨_, rfl, rfl⟩ | ⟨ys', hm', _⟩
    · exact ⟨rfl, rfl⟩
    · exact absurd hc hm'.1
  · rcases h' with ⟨hc, _⟩ | ⟨ys', hm', hr'⟩
    · exact absurd hc hm.1
    · obtain rfl := hm.unique hm'
      rcases hr with ⟨h1, rfl, rfl⟩ | ⟨h1, rfl, rfl⟩
      · rcases hr' with ⟨_, rfl, rfl⟩ | ⟨h2, _⟩
        · exact ⟨rfl, rfl⟩
        · omega
      · rcases hr' with ⟨h2, _⟩ | ⟨_, rfl, rfl⟩
        · omega
        · exact ⟨rfl, rfl⟩
theorem slE_nil (w : World) : SlE eRp w none 0 0 [] := ⟨rfl, Nat.le_refl _, fun _ => rfl, .inl rfl⟩
theorem MgP.res {w w' : World} {ms : List Rp} {e : Ending} (h : MgP w ms e w') : Below w.heap.size w w' ∧ ∃ A m cap E zs, e = .returned (.tuple #[.slice A m cap, .int .i64 E]) ∧ SlE eRp w' A m cap zs ∧ m ≤ 100000 ∧ Res ms E zs := by
  obtain ⟨hb, ⟨hc, rfl⟩ | ⟨A, m, cap, zs, hm, hS, h6, ⟨h3, rfl⟩ | ⟨h3, rfl⟩⟩⟩ := h
  · exact ⟨hb, none, 0, 0, 13, [], rfl, slE_nil _, by omega, .inl ⟨hc, rfl, rfl⟩⟩
  · exact ⟨hb, none, 0, 0, 2, [], rfl, slE_nil _, by omega, .inr ⟨zs, hm, .inl ⟨by rw [← hS.1]; exact h3, rfl, rfl⟩⟩⟩
  · exact ⟨hb, A, m, cap, 0, zs, rfl, hS, h6, .inr ⟨zs, hm, .inr ⟨by rw [← hS.1]; exact h3, rfl, rfl⟩⟩⟩
theorem FmP.res {w w' : World} {ms : List Rp} {e : Ending} {Z : Int} (h : FmP w Z ms e w') : Below w.heap.size w w' ∧ ∃ A m cap E zs, e = .returned (.tuple #[.slice A m cap, .int .i64 E]) ∧ SlE eRp w' A m cap zs ∧ m ≤ 100000 ∧ (Z ≠ 0 → E = Z ∧ zs = []) ∧ (Z = 0 → Res ms E zs) := by
  rcases h with ⟨h0, hb, rfl⟩ | ⟨h0, h⟩
  · exact ⟨hb, none, 0, 0, Z, [], rfl, slE_nil _, by omega, fun _ => ⟨rfl, rfl⟩, fun k => absurd k h0⟩
  · obtain ⟨hb, A, m, cap, E, zs, h1, h2, h3, h4⟩ := h.res
    exact ⟨hb, A, m, cap, E, zs, h1, h2, h3, fun k => absurd h0 k, fun _ => h4⟩

/-- What the law has at hand when its two lists are made. -/
def Two (w : World) (A1 : Option Addr) (n1 c1 : Nat) (ps : List Rp) (v5 : Value) (wx : World) : Prop :=
  ∃ A2 n2 c2 rs, v5 = .slice A2 n2 c2 ∧ Hid (SlE eRp wx A2 n2 c2 rs) ∧ Hid (∀ x ∈ rs, x.U) ∧ n2 ≤ 10 ∧ Hid (SlE eRp wx A1 n1 c1 ps) ∧ Below w.heap.size w wx

set_option maxHeartbeats 8000000 in
set_option maxRecDepth 100000 in
theorem reportsMerge_walk (a : Option Addr) (len cap : Nat) (w : World) (hs : Str (w.alloc (.cells #[.slice a len cap, .int .i64 0] 25)) w.heap.size 1000) :
    Calls Tryz.prog 3 #[.slice a len cap] w fun e w' => e = .returned (.bool true) ∧ Below w.heap.size w w' := by
  have hB0 : Below w.heap.size w (w.alloc (.cells #[.slice a len cap, .int .i64 0] 25)) := (Below.refl _ _).alloc (Nat.le_refl _) _
  go_enter Tryz.func3, Tryz.ntmps3
  go_wp2_with fail
  refine (range_any 0 5 _ _ 999 (by decide) (by decide) (by decide) hs).mono ?_
  rintro e w1 ⟨r1, ⟨x0, x1⟩, rfl, hs1, hg1⟩
  obtain ⟨m1, rfl⟩ := Int.eq_ofNat_of_zero_le x0
  have hb : Below w.heap.size w w1 := hB0.trans (gb_toBelow hg1 (Nat.le_refl _) (by simp))
  have hlt1 := hs1.lt
  clear hs hB0 hg1 x0
  go_wp2_with fail
  refine (reports_any m1 w1 _ 898 (by omega) hs1).mono ?_
  rintro e w2 ⟨A1, n1, c1, ps, rfl, hO1, hU1, h101, hs2, hg2⟩
  replace hb : Below w.heap.size w w2 := hb.trans (gb_toBelow hg2 (Nat.le_refl _) (by omega))
  have hlt2 := hs2.lt
  clear hs1 hg2 x1
  replace hU1 := Lib.hid hU1
  go_wp2_with fail
  refine (range_any 0 4 _ _ 897 (by decide) (by decide) (by decide) hs2).mono ?_
  rintro e w3 ⟨r2, ⟨x0, x1⟩, rfl, hs3, hg3⟩
  obtain ⟨m2, rfl⟩ := Int.eq_ofNat_of_zero_le x0
  replace hb : Below w.heap.size w w3 := hb.trans (gb_toBelow hg3 (Nat.le_refl _) (by omega))
  replace hO1 := hO1.gb hg3 (by omega)
  have hlt3 := hs3.lt
  clear hs2 hg3 x0
  go_wp2_with fail
  refine (reports_any m2 w3 _ 796 (by omega) hs3).mono ?_
  rintro e w4 ⟨A2, n2, c2, rs, rfl, hO2, hU2, h102, hs4, hg4⟩
  replace hb : Below w.heap.size w w4 := hb.trans (gb_toBelow hg4 (Nat.le_refl _) (by omega))
  replace hO1 := hO1.gb hg4 (by omega)
  have hlt4 := hs4.lt
  clear hs3 hg4 x1
  replace hU2 := Lib.hid hU2
  go_upto_region 3 with fail
  go_cut [27] (fun v27 wx => ∃ t : Bool, v27 = .bool t ∧ (t = true → 0 < n1) ∧ OwnS w1.heap.size wx A1 n1 c1 ps ∧ OwnS w3.heap.size wx A2 n2 c2 rs ∧ Str wx w.heap.size 795 ∧ Below w.heap.size w wx)
  case first =>
    by_cases hn : n1 = 0
    · subst hn
      replace hO1 := Lib.hid hO1
      replace hO2 := Lib.hid hO2
      replace hs4 := hs4.le (R' := 795) (by omega)
      go_wp2_with fail
      go_meet
      exact ⟨false, rfl, (fun h => by cases h), hO1.out, hO2.out, hs4, hb⟩
    · have hnp : (0 : Int) < n1 := by omega
      have hnp' : 0 < n1 := by omega
      clear hn
      go_wp2_with fail
      refine (flip_any _ _ _ 795 (by omega) (by omega) hs4).mono ?_
      rintro e w5 ⟨r9, rfl, hs1, hg1⟩
      have hQ1 := Lib.hid (hO1.gb hg1 (by omega))
      have hQ2 := Lib.hid (hO2.gb hg1 (by omega))
      replace hb : Below w.heap.size w w5 := hb.trans (gb_toBelow hg1 (Nat.le_refl _) (by omega))
      clear hO1 hO2 hs4 hg1
      go_wp2_with fail
      go_meet
      exact ⟨r9, rfl, (fun _ => hnp'), hQ1.out, hQ2.out, hs1, hb⟩
  case rest =>
  clear hO1 hO2 hs4 hb
  obtain ⟨t, rfl, htn, hO1, hO2, hs5, hb⟩ := hcut
  have hbw := hb.size
  go_upto_if 27 with fail
  go_cut [5] (fun v5 wx => Two w A1 n1 c1 ps v5 wx)
  case first =>
    cases t
    · have hQ1 := Lib.hid hO1.sl
      have hQ2 := Lib.hid hO2.sl
      clear hO1 hO2
      go_wp2_with fail
      go_meet
      exact ⟨A2, n2, c2, rs, rfl, hQ2, hU2, h102, hQ1, hb⟩
    · have hnp' := htn rfl
      have hnp : (0 : Int) < n1 := by omega
      obtain ⟨hnl, hnc, hO⟩ := hO1
      obtain ⟨g, n0, c0, hA, hQ⟩ : ∃ g n0 c0, A1 = some ⟨g, 0, none⟩ ∧ OwnR w1.heap.size wc g n0 c0 ps := by
        rcases hO with ⟨h0, _⟩ | h
        · rw [h0] at hnl; simp at hnl; omega
        · exact h
      clear hO hO2
      subst hA
      have hgl := hQ.lt
      replace hnl := Lib.hid hnl
      clear htn
      go_wp2_with fail
      refine (next_any _ _ _ 794 (by omega) (by omega) hs5).mono ?_
      rintro e w5 ⟨i, ⟨hi1, hi2⟩, rfl, hs1, hg1⟩
      replace hQ := hQ.gb hg1 (fun e => by have := Option.some.inj e; omega)
      have hsz5 := hg1.size
      have hgne : g ≠ w.heap.size := by omega
      replace hb : Below w.heap.size w w5 := hb.trans (gb_toBelow hg1 (Nat.le_refl _) (by omega))
      clear hs5 hg1
      obtain ⟨j, rfl⟩ := Int.eq_ofNat_of_zero_le hi1
      have hj : j < n1 := by omega
      have hjc : (j : Int) ≤ c1 := by omega
      have hjc2 : ¬ (c1 : Int) = j := by omega
      have hSd : SlE eRp w5 (some ⟨g, j * 14, none⟩) (n1 - j) (c1 - j) (ps.drop j) := by
        have := (hQ.sl n1 hnl.out hnc).dropG (h := j) (by omega)
        rw [Nat.zero_add] at this
        exact this
      have HC := Lib.hid (cloneRp_any _ _ _ _ w5 hSd (by omega))
      have hdl := Lib.hid hSd.1
      obtain ⟨D, hD⟩ : ∃ D, D = n1 - j := ⟨_, rfl⟩
      obtain ⟨D', hD'⟩ : ∃ D', D' = c1 - j := ⟨_, rfl⟩
      have hDp : 0 < D := by omega
      have hD10 : D ≤ 10 := by omega
      rw [← hD, ← hD'] at HC
      rw [← hD] at hdl
      have hji : (j : Int) ≤ n1 := by omega
      replace hD := Lib.hid hD
      replace hD' := Lib.hid hD'
      clear hSd hi1 hi2
      have hS1 := Lib.hid (hQ.sl n1 hnl.out hnc)
      clear hQ
      go_wp2_with fail
      rw [← hD.out, ← hD'.out]
      refine HC.out.mono ?_
      rintro e w6 ⟨v, rfl, hown, hb2⟩
      replace hS1 := Lib.hid (hS1.out.below hb2)
      replace hs1 := hs1.below hb2
      replace hb := hb.trans (hb2.mono hb.size)
      have hbs := hb2.size
      have hlt5 := hs1.lt
      clear HC hb2
      obtain ⟨g2, cap2, rfl, hg2a, hg2b, hcap2, _⟩ := hown.form (by intro e; rw [e] at hdl; have := hdl.out; simp at this; omega)
      rw [← hdl.out] at hown hcap2 ⊢
      have hR2 := ownR_all hown hdl.out
      have hUd := Lib.hid (fun x (hx : x ∈ ps.drop j) => hU1.out x (List.mem_of_mem_drop hx))
      generalize ps.drop j = ds at *
      clear hown
      go_wp2_with fail
      refine (flip_any _ _ _ 793 (by omega) (by omega) hs1).mono ?_
      rintro e w7 ⟨r9, rfl, hs2, hg1⟩
      have hwb5 := hb.size
      replace hR2 := hR2.gb hg1 (fun e => by have := Option.some.inj e; omega)
      have hS1' := hS1.out.gbS hg1 (fun ad e k => by cases e; exact hgne (Option.some.inj k))
      replace hb : Below w.heap.size w w7 := hb.trans (gb_toBelow hg1 (Nat.le_refl _) (by omega))
      clear hs1 hg1 hS1
      cases r9
      · have hQ1 := Lib.hid hS1'
        have hQ2 := Lib.hid (hR2.sl (cap := cap2) D hdl.out hcap2)
        clear hS1' hR2
        go_wp2_with fail
        go_meet
        exact ⟨_, _, _, ds, rfl, hQ2, hUd, hD10, hQ1, hb⟩
      · obtain ⟨x, hx⟩ : ∃ x, ds[0]? = some x := ⟨ds[0]'(by have := hdl.out; omega), List.getElem?_eq_getElem _⟩
        have c := hR2.cell hx (i := 13) (v := .int .i64 x.by_) rfl
        have f := hR2.free (0 * 14 + 13)
        simp only [Nat.zero_mul, Nat.zero_add] at c f
        obtain ⟨z, hz⟩ : ∃ z, z = wrap64 (x.by_ + 1) := ⟨_, rfl⟩
        have hP := hR2.put hx 13 [.int .i64 z] (by simp) { x with by_ := z } rfl
        have hlt7 := hR2.lt
        have hg9 := gb_cellsN (g := g2) [.int .i64 z] (0 * 14 + 13) w7
        have hgg : g ≠ g2 := by omega
        have hQ1 := Lib.hid (hS1'.gbS hg9 (fun ad e k => by cases e; exact hgg (Option.some.inj k)))
        have hQ2 := Lib.hid (hP.sl (cap := cap2) D (by rw [List.length_set]; exact hdl.out) hcap2)
        have hU3 := Lib.hid (show ∀ y ∈ ds.set 0 { x with by_ := z }, y.U from fun y hy => by
          rcases List.mem_or_eq_of_mem_set hy with h | h
          · exact hUd.out y h
          · rw [h]; exact hUd.out x (List.mem_of_getElem? hx))
        have hb9 : Below w.heap.size w (w7.setCells g2 (0 * 14 + 13) [.int .i64 z]) := hb.trans ⟨hg9.os, hg9.tape, hg9.output, hg9.size, fun k hk => hg9.block k (by have := hb.size; omega) (fun e => by have := Option.some.inj e; omega)⟩
        have hDi : (0 : Int) < D := by omega
        clear hS1' hR2 hP hg9 hx hlt7
        go_wp2_with fail
        rw [← hz]
        go_meet
        exact ⟨_, _, _, _, rfl, hQ2, hU3, hD10, hQ1, hb9⟩
  case rest =>
  clear hO1 hO2 hs5 hb htn hU2 h102 hbw
  obtain ⟨A2, n2, c2, rs, rfl, hS2, hU2, h102, hS1, hb⟩ := hcut
  have hUU := Lib.hid (show ∀ x ∈ ps ++ rs, x.U from fun x hx => by
    rcases List.mem_append.1 hx with h | h
    · exact hU1.out x h
    · exact hU2.out x h)
  have HM := Lib.hid (flowMerge_any A1 A2 n1 c1 n2 c2 ps rs wc hS1.out hS2.out hUU.out (by omega) (by omega))
  have HR1 := Lib.hid (fun W (hW : Below wc.heap.size wc W) => repsFault_any _ A1 n1 c1 ps W (hS1.out.below hW) (by omega) hU1.out rfl)
  have HR2 := Lib.hid (fun W (hW : Below wc.heap.size wc W) => repsFault_any _ A2 n2 c2 rs W (hS2.out.below hW) (by omega) hU2.out rfl)
  have HCk := Lib.hid (fun W (hW : Below wc.heap.size wc W) => check_any A1 n1 c1 ps W (hS1.out.below hW) (by omega) hU1.out)
  have HOf := Lib.hid (fun W (hW : Below wc.heap.size wc W) => reportsOf_any A1 A2 n1 c1 n2 c2 ps rs W (hS1.out.below hW) (hS2.out.below hW) hUU.out (by omega))
  clear hS1 hS2 hU1 hU2 hUU h101 h102
  generalize repsF ps = z1 at *
  generalize repsF rs = z2 at *
  generalize ps ++ rs = ms at *
  go_wp2_with fail
  refine HM.out.mono ?_
  intro e w5 hq
  obtain ⟨hb5, A, m, cp, E, xs, rfl, hX, hm, hE1, hE0⟩ := hq.res
  clear HM hq
  have hbw := hb.size
  replace hb := hb.trans (hb5.mono hbw)
  replace hX := Lib.hid hX
  replace hE1 := Lib.hid hE1
  replace hE0 := Lib.hid hE0
  go_wp2_with fail
  refine (HR1.out _ hb5).mono ?_
  rintro e w6 ⟨rfl, hb6⟩
  replace hX := Lib.hid (hX.out.below hb6)
  replace hb5 := hb5.trans (hb6.mono hb5.size)
  replace hb := hb.trans (hb6.mono hb.size)
  clear HR1 hb6
  go_wp2_with fail
  refine (HCk.out _ hb5).mono ?_
  rintro e w7 ⟨rfl, hb6⟩
  replace hX := Lib.hid (hX.out.below hb6)
  replace hb5 := hb5.trans (hb6.mono hb5.size)
  replace hb := hb.trans (hb6.mono hb.size)
  clear HCk hb6
  go_wp2_with fail
  refine (HR2.out _ hb5).mono ?_
  rintro e w8 ⟨rfl, hb6⟩
  replace hX := Lib.hid (hX.out.below hb6)
  replace hb5 := hb5.trans (hb6.mono hb5.size)
  replace hb := hb.trans (hb6.mono hb.size)
  clear HR2 hb6
  have hL := Blk.new w8 ([z1, z2].map (Value.int .i64)) 39
  have hbA : Below w8.heap.size w8 (w8.alloc (.cells ([z1, z2].map (Value.int .i64)).toArray 39)) := (Below.refl _ _).alloc (Nat.le_refl _) _
  replace hX := Lib.hid (hX.out.below hbA)
  replace hb5 := hb5.trans (hbA.mono hb5.size)
  replace hb := hb.trans (hbA.mono hb.size)
  clear hbA
  go_wp2_with fail
  refine (errs_blkR [z1, z2] _ _ _ _ hL (by simp)).mono ?_
  rintro e w9 ⟨rfl, rfl⟩
  clear hL
  generalize firstZ [z1, z2] = Z at *
  by_cases hZ : Z = 0
  · subst hZ
    have hres := Lib.hid (hE0.out rfl)
    clear hE0 hE1
    have HO2 := Lib.hid (HOf.out _ hb5)
    clear HOf
    go_wp2_with fail
    refine HO2.out.mono ?_
    intro e w10 hq
    obtain ⟨hb6, A', m', cp', E', xs', rfl, hX', hm', hres'⟩ := hq.res
    obtain ⟨rfl, rfl⟩ := hres.out.unique hres'
    replace hX := Lib.hid (hX.out.below hb6)
    replace hX' := Lib.hid hX'
    replace hb := hb.trans (hb6.mono hb.size)
    clear HO2 hq hb6 hres hres' hb5
    go_wp2_with fail
    refine (equalRp_any _ _ _ _ _ _ _ _ _ hX.out hX'.out (by omega) (by omega)).mono ?_
    rintro e w11 ⟨bb, rfl, hbb, hb6⟩
    obtain rfl : bb = true := hbb.2 rfl
    replace hb := hb.trans (hb6.mono hb.size)
    clear hX hX' hbb hb6
    go_wp2_with fail
    refine (flowing_any _).mono ?_
    rintro e w12 ⟨rfl, hb6⟩
    replace hb := hb.trans (hb6.mono hb.size)
    clear hb6
    go_wp2_with fail
    go_ret
    exact ⟨rfl, hb⟩
  · obtain ⟨rfl, rfl⟩ := hE1.out hZ
    have hZb : (E == 0) = false := by simpa using hZ
    clear hE0 hE1 HOf hZ hb5
    go_wp2_with fail
    refine (equalRp_any _ _ _ _ _ _ _ _ _ hX.out (slE_nil _) (by omega) (by omega)).mono ?_
    rintro e w11 ⟨bb, rfl, hbb, hb6⟩
    obtain rfl : bb = true := hbb.2 rfl
    replace hb := hb.trans (hb6.mono hb.size)
    clear hX hbb hb6
    go_wp2_with fail
    refine (flowing_any _).mono ?_
    rintro e w12 ⟨rfl, hb6⟩
    replace hb := hb.trans (hb6.mono hb.size)
    clear hb6
    go_wp2_with fail
    go_ret
    exact ⟨rfl, hb⟩
end Go.Proofs.YtbheigndfhhpcaaGreatDoor
