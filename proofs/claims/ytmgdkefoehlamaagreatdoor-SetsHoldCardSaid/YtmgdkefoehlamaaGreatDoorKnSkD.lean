/- SetsHold: the law. -/
import Derived.Test.YtmgdkefoehlamaaGreatDoorKnSkC
import Derived.Test.YtmgdkefoehlamaaGreatDoorKnSuD
import Derived.Test.YtmgdkefoehlamaaGreatDoorKnRwA
namespace Go.Proofs.YtmgdkefoehlamaaGreatDoor
open Go.RowKit
set_option linter.unusedVariables false
set_option linter.unusedSimpArgs false

theorem pfsOf_some {y : Ad × Ad} (h : RgR y) : 0 < (pfsOf [rowA y]).length := by
  have ht : Tells [y] (InA [y]) := ⟨List.pairwise_singleton _ _, fun m => Iff.rfl, fun z hz => by rw [List.mem_singleton.1 hz]; exact h⟩
  rcases Nat.eq_zero_or_pos (pfsOf [rowA y]).length with e | e
  · exact absurd ⟨y, List.mem_singleton_self _, Nat.le_refl _, h.2.2.2⟩ ((pfsOf_empty ht).1 e y.1.n)
  · exact e
theorem addrK_any (w : World) (b R : Nat) (hs : Str w b (R + 3)) :
    Calls Tryz.prog 17 #[.pointer (some ⟨b, 0, none⟩)] w fun e w' => ∃ a : Ad, a.R ∧ e = .returned (adA a) ∧ Str w' b R ∧ w.grownBy w' (some b) := by
  refine (addr_any w b R hs).mono ?_
  rintro e w1 ⟨s, hi, lo, ⟨h1, h2, h3⟩, rfl, hs1, hg⟩
  refine ⟨⟨s, hi, lo⟩, ⟨⟨h1, h2⟩, fun hs => ?_⟩, rfl, hs1, hg⟩
  obtain ⟨e1, e2⟩ := h3 hs
  show num hi lo < 2 ^ 32
  subst e1
  have e : num 0 lo = lo.toNat := by unfold num; simp
  rw [e]
  omega
theorem firstE_right : ∀ {ps : List Pf}, (∀ p ∈ ps, p.R) → firstE ps = 0
  | [], _ => rfl
  | p :: r, h => by
    have hp := h p List.mem_cons_self
    show (if pfE p = 0 then firstE r else pfE p) = 0
    rw [if_pos ((pfE_iff hp.1.u).2 hp)]
    exact firstE_right fun q hq => h q (List.mem_cons_of_mem _ hq)
structure Two3 (B b : Nat) (w : World) (vx vy : Value) (xs ys : List Pf) (p : Nat) (a : Ad) : Prop where
  x : OwnE ePf 40 B w vx xs
  y : OwnE ePf 40 B w vy ys
  p : Blk w p (adC a) 38
theorem Two3.below {B b : Nat} {w w' : World} {vx vy : Value} {xs ys : List Pf} {p : Nat} {a : Ad} (h : Two3 B b w vx vy xs ys p a) (k : Below w.heap.size w w') : Two3 B b w' vx vy xs ys p a := ⟨h.x.below k, h.y.below k, h.p.below k⟩

set_option maxRecDepth 100000 in
set_option maxHeartbeats 8000000 in
theorem setsHold_walk (a : Option Addr) (len cap : Nat) (w : World) (hT : Tz w) (hY : Rdy w) (hs0 : Str (w.alloc (.cells #[.slice a len cap, .int .i64 0] 25)) w.heap.size 1000) :
    Calls Tryz.prog 4 #[.slice a len cap] w fun e w' => e = .returned (.bool true) ∧ Below w.heap.size w w' := by
  have hT1 : Hid (∀ W, Below w.heap.size w W → Tz W) := Lib.hid fun W h => hT.below h
  have HRY := Lib.hid (fun W (h : Below w.heap.size w W) => ready_any W (Rdy.below hY h))
  clear hT hY
  go_enter Tryz.func4, Tryz.ntmps4
  go_wp2_with fail
  obtain ⟨w0, hw0⟩ : ∃ w0, w0 = w.alloc (.cells #[.slice a len cap, .int .i64 0] 25) := ⟨_, rfl⟩
  have hz0 : w0.heap.size = w.heap.size + 1 := by rw [hw0]; simp
  have hB0 := Lib.hid (show Below w.heap.size w w0 by rw [hw0]; exact (Below.refl _ _).alloc (Nat.le_refl _) _)
  rw [← hw0] at hs0 ⊢
  clear hw0
  obtain ⟨b, hb⟩ : ∃ b, b = w.heap.size := ⟨_, rfl⟩
  rw [← hb] at hz0 hs0 ⊢
  replace hb := Lib.hid hb
  refine (rightSetG_any w0 b 970 (hs0.le (by omega))).mono ?_
  rintro e w1 ⟨xs, vx, ⟨hx1, hx2, hx3, _⟩, rfl, hox, hs1, hg⟩
  have hX := Lib.hid (show xs.length ≤ 5 ∧ (∀ p ∈ xs, p.R) ∧ setF xs = 0 from ⟨hx1, hx2, hx3⟩)
  clear hx1 hx2 hx3 hs0
  replace hox := hox.mono (show b + 1 ≤ w0.heap.size by omega)
  have nx : vx.ownBlock ≠ some b := fun e => by have := hox.lt b e; omega
  go_wp2_with fail
  refine (rightSetG_any w1 b 940 (hs1.le (by omega))).mono ?_
  rintro e w2 ⟨ys, vy, ⟨hy1, hy2, hy3, _⟩, rfl, hoy, hs2, hg2⟩
  have hZ := Lib.hid (show ys.length ≤ 5 ∧ (∀ p ∈ ys, p.R) ∧ setF ys = 0 from ⟨hy1, hy2, hy3⟩)
  have hgs := hg.size
  replace hox := hox.gb hg2 (.inr nx)
  replace hg := gb_trans hg hg2
  replace hoy := hoy.mono (show b + 1 ≤ w1.heap.size by omega)
  have ny : vy.ownBlock ≠ some b := fun e => by have := hoy.lt b e; omega
  clear hs1 hg2 hy1 hy2 hy3 hgs
  go_wp2_with fail
  refine (addrK_any w2 b 900 (hs2.le (by omega))).mono ?_
  rintro e w3 ⟨ad, haR, rfl, hs3, hg3⟩
  replace haR := Lib.hid haR
  replace hox := hox.gb hg3 (.inr nx)
  replace hoy := hoy.gb hg3 (.inr ny)
  replace hg := gb_trans hg hg3
  have hB := Lib.hid (show Below w.heap.size w w3 from hB0.out.trans (gb_toBelow hg (Nat.le_of_eq hb.out.symm) (by omega)))
  clear hs2 hs3 hg3 hg nx ny hB0
  have S1 := stT_new rowAd (te := 38) w3 w3.heap.size rfl [.bool false, .int .u64 0, .int .u64 0] (adC ad) rfl rfl (adC_one ad)
  have hC := Blk.new w3 (adC ad) 38
  replace hox := hox.alloc' (.cells (adC ad).toArray 38)
  replace hoy := hoy.alloc' (.cells (adC ad).toArray 38)
  have hB4 := Lib.hid (hB.out.alloc hB.out.size (.cells (adC ad).toArray 38))
  go_upto_region 3 with fail
  clear S1 hB
  obtain ⟨p, hp⟩ : ∃ p, p = w3.heap.size := ⟨_, rfl⟩
  rw [← hp] at hC ⊢
  clear hp
  generalize w3.alloc (.cells (adC ad).toArray 38) = w4 at *
  have hI := Lib.hid (show Two3 (b + 1) b w4 vx vy xs ys p ad from ⟨hox, hoy, hC⟩)
  obtain ⟨Ax, cx, rfl, _⟩ := hox.sl
  obtain ⟨Ay, cy, rfl, _⟩ := hoy.sl
  obtain ⟨nx, hnx⟩ : ∃ n, n = xs.length := ⟨_, rfl⟩
  obtain ⟨ny, hny⟩ : ∃ n, n = ys.length := ⟨_, rfl⟩
  rw [← hnx] at hI ⊢
  rw [← hny] at hI ⊢
  have hnx6 := Lib.hid (show nx ≤ 5 by rw [hnx]; exact hX.out.1)
  have hny6 := Lib.hid (show ny ≤ 5 by rw [hny]; exact hZ.out.1)
  replace hnx := Lib.hid hnx
  replace hny := Lib.hid hny
  clear hox hoy hC
  have HSX := Lib.hid (fun W (hW : Below w4.heap.size w4 W) => (show SlE ePf W Ax nx cx xs by obtain ⟨A', c', e, hS⟩ := (hI.out.below hW).x.sl; cases e; rw [hnx.out]; exact hS))
  have HSY := Lib.hid (fun W (hW : Below w4.heap.size w4 W) => (show SlE ePf W Ay ny cy ys by obtain ⟨A', c', e, hS⟩ := (hI.out.below hW).y.sl; cases e; rw [hny.out]; exact hS))
  have HP := Lib.hid (fun W (hW : Below w4.heap.size w4 W) => (hI.out.below hW).p)
  have HOX := Lib.hid (fun W (hW : Below w4.heap.size w4 W) => (show OwnE ePf 40 (b + 1) W (.slice Ax nx cx) xs from (hI.out.below hW).x))
  have HTW := Lib.hid (fun W (hW : Below w4.heap.size w4 W) => hT1.out W (hB4.out.trans (hW.mono hB4.out.size)))
  clear hI
  have hXU := Lib.hid (show ∀ q ∈ xs, q.U from fun q hq => (hX.out.2.1 q hq).u)
  have hZU := Lib.hid (show ∀ q ∈ ys, q.U from fun q hq => (hZ.out.2.1 q hq).u)
  have hEE := Lib.hid (show firstZ [setF xs, setF ys] = 0 by rw [hX.out.2.2, hZ.out.2.2]; simp [firstZ])
  have hEY := Lib.hid (show firstZ [setF ys, setF xs] = 0 by rw [hX.out.2.2, hZ.out.2.2]; simp [firstZ])
  have hER := Lib.hid (show firstZ [setF xs, setF []] = 0 by rw [hX.out.2.2, setF_nil]; simp [firstZ])
  have PU := Lib.hid (fun W (hW : Below w4.heap.size w4 W) => union_any Ax Ay nx cx ny cy xs ys W (HSX.out W hW) (HSY.out W hW) (by have := hnx6.out; omega) (by have := hny6.out; omega) hXU.out hZU.out (HTW.out W hW) (bound_union (by have := hX.out.1; omega) (by have := hZ.out.1; omega)))
  have PB := Lib.hid (fun W (hW : Below w4.heap.size w4 W) => both_any Ax Ay nx cx ny cy xs ys W (HSX.out W hW) (HSY.out W hW) (by have := hnx6.out; omega) (by have := hny6.out; omega) hXU.out hZU.out (HTW.out W hW) (bound_both (by have := hX.out.1; omega) (by have := hZ.out.1; omega)))
  have PW := Lib.hid (fun W (hW : Below w4.heap.size w4 W) => without_any Ax Ay nx cx ny cy xs ys W (HSX.out W hW) (HSY.out W hW) (by have := hnx6.out; omega) (by have := hny6.out; omega) hXU.out hZU.out (HTW.out W hW) (bound_without (by have := hX.out.1; omega) (by have := hZ.out.1; omega)))
  have PR := Lib.hid (fun W (hW : Below w4.heap.size w4 W) => rest_any Ax nx cx xs W (HSX.out W hW) (by have := hnx6.out; omega) hXU.out (HTW.out W hW) (bound_rest (by have := hX.out.1; omega)))
  have PL := Lib.hid (fun W (hW : Below w4.heap.size w4 W) => without_any Ay Ax ny cy nx cx ys xs W (HSY.out W hW) (HSX.out W hW) (by have := hny6.out; omega) (by have := hnx6.out; omega) hZU.out hXU.out (HTW.out W hW) (bound_without (by have := hZ.out.1; omega) (by have := hX.out.1; omega)))
  have PC := Lib.hid (fun W (hW : Below w4.heap.size w4 W) => covers_any Ax Ay nx cx ny cy xs ys W (HSX.out W hW) (HSY.out W hW) (by have := hnx6.out; omega) (by have := hny6.out; omega) hXU.out hZU.out)
  have PG := Lib.hid (fun W (hW : Below w4.heap.size w4 W) => ranges_any Ax nx cx xs W (HSX.out W hW) (by have := hnx6.out; omega) hXU.out)
  rw [hEE.out] at PU PB PW PC
  rw [hEY.out] at PL
  rw [hER.out] at PR
  rw [hX.out.2.2] at PG
  have HHX := Lib.hid (fun W (hW : Below w4.heap.size w4 W) => hasFn_any ad p Ax nx cx xs W (HP.out W hW) (HSX.out W hW) (by have := hnx6.out; omega) hX.out.2.1 hX.out.2.2 haR.out)
  have HHY := Lib.hid (fun W (hW : Below w4.heap.size w4 W) => hasFn_any ad p Ay ny cy ys W (HP.out W hW) (HSY.out W hW) (by have := hny6.out; omega) hZ.out.2.1 hZ.out.2.2 haR.out)
  obtain ⟨ix, hix⟩ : ∃ i, i = inS xs ad.n := ⟨_, rfl⟩
  obtain ⟨iy, hiy⟩ : ∃ i, i = inS ys ad.n := ⟨_, rfl⟩
  rw [← hix] at HHX
  rw [← hiy] at HHY
  have HM := Lib.hid (fun (k : Bool → Bool → Bool) (us : List Pf) (W W' : World) (v : Value) (hW : Below w4.heap.size w4 W') (hc : CmbS k xs ys us) (ho : OwnE ePf 40 W.heap.size W' v us) (hl : us.length ≤ 1000) =>
    (show ∃ A n c, v = .slice A n c ∧ Hid (Calls Tryz.prog 18 #[.slice A n c, .int .i64 0, .pointer (some ⟨p, 0, none⟩)] W' (GivesV (.bool (k ix iy)) W')) by
      obtain ⟨A', c', rfl, hS⟩ := ho.sl
      obtain ⟨g1, g2, g3⟩ := cmb_good hc
      have h := hasFn_any ad p A' us.length c' us W' (HP.out W' hW) hS hl g2 g1 haR.out
      rw [g3 _ haR.out.val, ← hix, ← hiy] at h
      exact ⟨A', _, c', rfl, Lib.hid h⟩))
  have HM0 := Lib.hid (fun (us : List Pf) (W W' : World) (v : Value) (hW : Below w4.heap.size w4 W') (hc : CmbS (fun q _ => !q) xs [] us) (ho : OwnE ePf 40 W.heap.size W' v us) (hl : us.length ≤ 1000) =>
    (show ∃ A n c, v = .slice A n c ∧ Hid (Calls Tryz.prog 18 #[.slice A n c, .int .i64 0, .pointer (some ⟨p, 0, none⟩)] W' (GivesV (.bool (!ix)) W')) by
      obtain ⟨A', c', rfl, hS⟩ := ho.sl
      obtain ⟨g1, g2, g3⟩ := cmb_good hc
      have h := hasFn_any ad p A' us.length c' us W' (HP.out W' hW) hS hl g2 g1 haR.out
      rw [g3 _ haR.out.val, ← hix] at h
      exact ⟨A', _, c', rfl, Lib.hid h⟩))
  replace hix := Lib.hid hix
  replace hiy := Lib.hid hiy
  have LU := Lib.hid (fun ps (h : CmbS (fun p q => p || q) xs ys ps) => (show ps.length ≤ 1000 by obtain ⟨h1, h2, zs, hz, e⟩ := h; rw [e]; exact bound_union (by have := hX.out.1; omega) (by have := hZ.out.1; omega) h1 h2 zs hz))
  have LB := Lib.hid (fun ps (h : CmbS (fun p q => p && q) xs ys ps) => (show ps.length ≤ 1000 by obtain ⟨h1, h2, zs, hz, e⟩ := h; rw [e]; exact bound_both (by have := hX.out.1; omega) (by have := hZ.out.1; omega) h1 h2 zs hz))
  have LW := Lib.hid (fun ps (h : CmbS (fun p q => p && !q) xs ys ps) => (show ps.length ≤ 1000 by obtain ⟨h1, h2, zs, hz, e⟩ := h; rw [e]; exact bound_without (by have := hX.out.1; omega) (by have := hZ.out.1; omega) h1 h2 zs hz))
  have LR := Lib.hid (fun ps (h : CmbS (fun p _ => !p) xs [] ps) => (show ps.length ≤ 1000 by obtain ⟨h1, _, zs, hz, e⟩ := h; rw [e]; exact bound_rest (by have := hX.out.1; omega) h1 zs hz))
  have hbw := Below.refl w4.heap.size w4
  go_wp2_with fail
  refine (HHX.out _ hbw).mono ?_
  rintro e w5 ⟨rfl, hv⟩
  replace hbw := hbw.trans (hv.mono hbw.size)
  clear hv HHX
  go_wp2_with fail
  refine (HHY.out _ hbw).mono ?_
  rintro e w6 ⟨rfl, hv⟩
  replace hbw := hbw.trans (hv.mono hbw.size)
  clear hv HHY
  go_upto_region 5 with fail
  go_cut [89] (fun v wx => v = .bool false ∧ Below w4.heap.size w4 wx)
  case first => as_aux_lemma =>
    cases ix <;> cases iy
    all_goals
      go_wp2_with fail
      refine (PU.out _ hbw).mono ?_
      rintro e u1 ⟨v1, us, rfl, ho, hc, _, hv⟩
      replace hbw := hbw.trans (hv.mono hbw.size)
      obtain ⟨A1, n1, c1, rfl, H1⟩ := HM.out _ _ _ _ _ hbw (hc (by trivial)) ho (LU.out _ (hc (by trivial)))
      clear hv ho hc
      go_wp2_with fail
      refine H1.out.mono ?_
      rintro e u2 ⟨rfl, hv⟩
      replace hbw := hbw.trans (hv.mono hbw.size)
      clear hv H1
      go_wp2_with fail
      refine (PB.out _ hbw).mono ?_
      rintro e u3 ⟨v2, us2, rfl, ho, hc, _, hv⟩
      replace hbw := hbw.trans (hv.mono hbw.size)
      obtain ⟨A2, n2, c2, rfl, H2⟩ := HM.out _ _ _ _ _ hbw (hc (by trivial)) ho (LB.out _ (hc (by trivial)))
      clear hv ho hc
      go_wp2_with fail
      refine H2.out.mono ?_
      rintro e u4 ⟨rfl, hv⟩
      replace hbw := hbw.trans (hv.mono hbw.size)
      clear hv H2
      go_wp2_with fail
      refine (PW.out _ hbw).mono ?_
      rintro e u5 ⟨v3, us3, rfl, ho, hc, _, hv⟩
      replace hbw := hbw.trans (hv.mono hbw.size)
      obtain ⟨A3, n3, c3, rfl, H3⟩ := HM.out _ _ _ _ _ hbw (hc (by trivial)) ho (LW.out _ (hc (by trivial)))
      clear hv ho hc
      go_wp2_with fail
      refine H3.out.mono ?_
      rintro e u6 ⟨rfl, hv⟩
      replace hbw := hbw.trans (hv.mono hbw.size)
      clear hv H3
      go_wp2_with fail
      refine (PR.out _ hbw).mono ?_
      rintro e u7 ⟨v4, us4, rfl, ho, hc, _, hv⟩
      replace hbw := hbw.trans (hv.mono hbw.size)
      obtain ⟨A4, n4, c4, rfl, H4⟩ := HM0.out _ _ _ _ hbw (hc (by trivial)) ho (LR.out _ (hc (by trivial)))
      clear hv ho hc
      go_wp2_with fail
      refine H4.out.mono ?_
      rintro e u8 ⟨rfl, hv⟩
      replace hbw := hbw.trans (hv.mono hbw.size)
      clear hv H4
      go_wp2_with fail
      go_meet
      exact ⟨rfl, hbw⟩
  case rest =>
  clear hbw PU PB PW PR HM HM0 LU LB LW LR hix hiy
  obtain ⟨rfl, hbw⟩ := hcut
  go_wp2_with fail
  refine (PG.out _ hbw).mono ?_
  rintro e w7 ⟨Ar, cr, rs, rfl, hSr, hr1, _, hr3, hv⟩
  have hJ := Lib.hid (hr1 (by trivial)).2
  have hb7 := Lib.hid (hbw.trans (hv.mono hbw.size))
  have hback := Lib.hid (back_same hX.out.2.1 hX.out.2.2 hJ.out)
  have hRg := Lib.hid hJ.out.2.2
  clear hv hbw hr1 PG
  obtain ⟨L, hL⟩ : ∃ L, L = rs.length := ⟨_, rfl⟩
  rw [← hL] at hSr hr3 ⊢
  replace hL := Lib.hid hL
  have hL5 := Lib.hid (show L ≤ 5 by have := hnx6.out; omega)
  replace hSr := Lib.hid hSr
  clear hr3
  have HGS := Lib.hid (fun (y : Ad × Ad) (W : World) (hy : RgR y) (hW : Below w7.heap.size w7 W) => (show Calls Tryz.prog 21 #[rgA y] W (GivesS 0 (fun ps => RgR y ∧ ps = pfsOf [rowA y]) W) by
    have h := span_any y W hy.1.u hy.2.1.u (HTW.out W (hb7.out.trans (hW.mono hb7.out.size)))
    rw [spanE_R hy] at h
    exact h))
  go_wp2_with fail
  go_loopw [12, 97] (fun o i wr => ∃ k : Nat, k ≤ L ∧ i = .int .i64 k ∧ OwnE ePf 40 w7.heap.size wr o (pfsOf ((rs.map rowA).take k)) ∧ Below w7.heap.size w7 wr) (fun _ i _ => L - (intOf i).toNat)
  case atStart => exact ⟨0, by omega, rfl, OwnE.nil _ _, Below.refl _ _⟩
  case round =>
    obtain ⟨k, hk, rfl, hown, hbw⟩ := hrel
    by_cases hlt : k < L
    · obtain ⟨x, hx⟩ : ∃ x, rs[k]? = some x := ⟨rs[k]'(by have := hL.out; omega), List.getElem?_eq_getElem _⟩
      obtain ⟨g0, off, rfl, hg0, hc0⟩ := hSr.out.at' hlt
      have hld := SlE.ld rowRg (hSr.out.below hbw) hx
      replace hld : (ldT 53 (.pointer (some ⟨g0, off + k * 6, none⟩))).run Tryz.prog wr = .ok (.value (rgA x)) wr := hld
      have hxR := Lib.hid (hRg.out x (List.mem_of_getElem? hx))
      have hlt' : (k : Int) < L := by omega
      have hsw := hbw.size
      have htk := Lib.hid (show pfsOf ((rs.map rowA).take (k + 1)) = pfsOf ((rs.map rowA).take k) ++ pfsOf [rowA x] by
        rw [List.take_add_one, List.getElem?_map, hx, pfsOf_app]; rfl)
      have hsum := Lib.hid (show (pfsOf ((rs.map rowA).take k)).length + (pfsOf [rowA x]).length ≤ 5 by
        have h1 := htk.out
        have h2 : pfsOf (rs.map rowA) = pfsOf ((rs.map rowA).take (k + 1)) ++ pfsOf ((rs.map rowA).drop (k + 1)) := by
          rw [← pfsOf_app, List.take_append_drop]
        have h3 := hback.out
        have h4 := hX.out.1
        rw [h2, h1] at h3
        have h5 := congrArg List.length h3
        rw [List.length_append, List.length_append] at h5
        omega)
      have S1 := stT_new rowRg (te := 53) wr wr.heap.size rfl [.bool false, .int .u64 0, .int .u64 0, .bool false, .int .u64 0, .int .u64 0] (rgC x) rfl rfl (rgC_one x)
      clear hc0 hx
      have hC := Blk.new wr (rgC x) 53
      have lc := hC.ld rowRg rfl
      replace hown := hown.alloc' (.cells (rgC x).toArray 53)
      replace hbw := hbw.alloc hsw (.cells (rgC x).toArray 53)
      have H := Lib.hid (HGS.out x _ hxR.out hbw)
      go_wp2_with fail
      refine H.out.mono ?_
      rintro e w8 ⟨v, ps, rfl, ho, hps, _, hv⟩
      clear S1 hld lc hC H
      obtain rfl := (hps (by trivial)).2
      have hz8 := hbw.size
      replace hown := hown.below hv
      replace hbw := hbw.trans (hv.mono hz8)
      have hps1 := pfsOf_some hxR.out
      obtain ⟨A8, c8, rfl, hS8⟩ := ho.sl
      obtain ⟨a8, rfl⟩ : ∃ a8, A8 = some a8 := by
        cases A8 with
        | none => have h1 := hS8.2.1; have h2 := hS8.2.2.1 rfl; omega
        | some a8 => exact ⟨a8, rfl⟩
      have hcs := hS8.cells
      obtain ⟨L8, hL8⟩ : ∃ l, l = (pfsOf [rowA x]).length := ⟨_, rfl⟩
      rw [← hL8] at hS8 ⊢
      have hz9 := hbw.size
      replace hL8 := Lib.hid hL8
      replace hcs := Lib.hid hcs
      clear hv hps ho hz8 hS8 hps1
      go_wp2_with (at_builtin; refine wpList_app tyePf rfl _ _ rfl w7.heap.size _ _ (pfsOf [rowA x]) rfl hown a8 L8 c8 rfl hL8.out hcs.out ?d2 hz9 ?_)
      case d2 => have := hsum.out; omega
      intro v9 w9 hown9 hg9 _
      have hb9 : Below w7.heap.size w7 w9 := hbw.grown hg9 hz9 (fun k h => (hown.lt k h).1)
      clear hg9 hown hbw
      rw [← htk.out] at hown9
      have hL5x := hL5.out
      have hk5 : k ≤ 5 := by omega
      clear hL5x
      go_wp2_with fail
      go_roundw
      case rel => exact ⟨k + 1, by omega, by go_num, hown9, hb9⟩
      case measure => simp [intOf]; omega
    · have hfin : k = L := by omega
      subst hfin
      have hall := Lib.hid (show pfsOf ((rs.map rowA).take k) = xs by rw [List.take_of_length_le (by rw [List.length_map]; have := hL.out; omega)]; exact hback.out)
      rw [hall.out] at hown
      obtain ⟨A8, c8, rfl, hS8⟩ := hown.sl
      obtain ⟨L8, hL8⟩ : ∃ l, l = xs.length := ⟨_, rfl⟩
      rw [← hL8] at hS8 ⊢
      have hL8' := Lib.hid (show L8 ≤ 5 by rw [hL8]; exact hX.out.1)
      replace hbw := Lib.hid (hb7.out.trans (hbw.mono hb7.out.size))
      have HL := Lib.hid (least_any A8 L8 c8 xs wr hS8 (by have := hL8'.out; omega) hXU.out (HTW.out _ hbw.out))
      rw [firstE_right hX.out.2.1] at HL
      clear hown hL8 hS8 hall hSr hL HGS
      go_wp2_with fail
      refine HL.out.mono ?_
      rintro e w8 ⟨v, qs, rfl, ho, hq, _, hv⟩
      obtain ⟨_, ys2, hj2, rfl⟩ := hq (by trivial)
      rw [back_same hX.out.2.1 hX.out.2.2 hj2] at ho
      replace ho := ho.mono hbw.out.size
      replace hbw := hbw.out.trans (hv.mono hbw.out.size)
      have hlq := hX.out.1
      clear HL hq hv hj2
      go_wp2_with fail
      refine (PC.out _ hbw).mono ?_
      rintro e w9 ⟨bc, zs, rfl, hz1, _, hv⟩
      obtain ⟨_, _, hz3, hz4⟩ := hz1 (by trivial)
      replace ho := ho.below hv
      replace hbw := hbw.trans (hv.mono hbw.size)
      clear hv hz1 PC
      replace hz3 := Lib.hid hz3
      replace hz4 := Lib.hid hz4
      go_wp2_with fail
      refine (PL.out _ hbw).mono ?_
      rintro e w10 ⟨vl, left, rfl, hol, hcl, _, hv⟩
      have hleft := Lib.hid (covers_left hz3.out (hcl (by trivial)))
      replace ho := ho.below hv
      replace hbw := hbw.trans (hv.mono hbw.size)
      obtain ⟨Al, cl, rfl, _⟩ := hol.sl
      generalize left.length = nl at *
      have hbc := Lib.hid (show bc = decide (nl = 0) by
        rw [Bool.eq_iff_iff, hz4.out, hleft.out, decide_eq_true_iff])
      clear hv hol hcl hleft hz3 hz4 PL
      have HEQ := Lib.hid (equal_got ho (HOX.out _ hbw) rfl (by omega))
      obtain ⟨Aq, cq, rfl, _⟩ := ho.sl
      generalize xs.length = lq at *
      have hB11 := Lib.hid (hB4.out.trans (hbw.mono hB4.out.size))
      clear ho hbw
      go_upto_region 20 with fail
      by_cases hnl : nl = 0
      · subst hnl
        obtain rfl : bc = true := by rw [hbc.out]; rfl
        go_wp2_with fail
        refine HEQ.out.mono ?_
        rintro e w11 ⟨rfl, hv⟩
        have hB12 := hB11.out.trans (hv.mono hB11.out.size)
        clear hv
        go_wp2_with fail
        refine (HRY.out _ hB12).mono ?_
        rintro e w12 ⟨rfl, hv⟩
        have hB13 := hB12.trans (hv.mono hB12.size)
        clear hv
        go_wp2_with fail
        go_ret
        exact ⟨rfl, hB13⟩
      · obtain rfl : bc = false := by rw [hbc.out]; exact decide_eq_false hnl
        have hnl' : ((nl : Int) == 0) = false := by rw [beq_eq_false_iff_ne]; omega
        clear hbc
        go_wp2_with fail
        refine HEQ.out.mono ?_
        rintro e w11 ⟨rfl, hv⟩
        have hB12 := hB11.out.trans (hv.mono hB11.out.size)
        clear hv
        go_wp2_with fail
        refine (HRY.out _ hB12).mono ?_
        rintro e w12 ⟨rfl, hv⟩
        have hB13 := hB12.trans (hv.mono hB12.size)
        clear hv
        go_wp2_with fail
        go_ret
        exact ⟨rfl, hB13⟩
end Go.Proofs.YtmgdkefoehlamaaGreatDoor
