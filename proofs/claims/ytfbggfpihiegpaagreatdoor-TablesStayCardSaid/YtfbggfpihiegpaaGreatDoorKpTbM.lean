/- TablesStay: the law. -/
import Derived.Test.YtfbggfpihiegpaaGreatDoorKpTbL
import Derived.Test.YtfbggfpihiegpaaGreatDoorKpTbH
import Derived.Test.YtfbggfpihiegpaaGreatDoorKpRwA
import Derived.Test.YtfbggfpihiegpaaGreatDoorKpLaneAddr
set_option linter.unusedVariables false
set_option linter.unusedSimpArgs false
set_option maxRecDepth 100000
namespace Go.Proofs.YtfbggfpihiegpaaGreatDoor
open Go.RowKit

theorem sl_gbT {w w' : World} {A : Option Addr} {n cap b : Nat} {t : List En} (h : SlE eEn w A n cap t) (hO : t = [] ∨ ∃ g, A = some ⟨g, 0, none⟩ ∧ b < g) (hg : w.grownBy w' (some b)) : SlE eEn w' A n cap t := by
  obtain ⟨h1, h2, h3, h4⟩ := h
  refine ⟨h1, h2, h3, ?_⟩
  rcases h4 with h4 | ⟨g, off, hA, hlt, hc⟩
  · exact .inl h4
  · refine .inr ⟨g, off, hA, Nat.lt_of_lt_of_le hlt hg.size, fun j x hx i v hv => ?_⟩
    rcases hO with rfl | ⟨g', hA', hb⟩
    · simp at hx
    · rw [hA] at hA'
      injection hA' with hA'
      injection hA' with e1 _ _
      subst e1
      rw [World.cell?_of_block (w := w) (hg.block g hlt (by intro e; cases e; omega))]
      exact hc j x hx i v hv
theorem own_over {B N cap : Nat} {w : World} {A : Option Addr} {t : List En} {b : Nat} (h : t = [] ∨ ∃ g N, A = some ⟨g, 0, none⟩ ∧ OwnN B w g N cap t) (hb : b < B) : t = [] ∨ ∃ g, A = some ⟨g, 0, none⟩ ∧ b < g := by
  rcases h with h | ⟨g, N, hA, hN⟩
  · exact .inl h
  · refine .inr ⟨g, hA, ?_⟩
    obtain ⟨C, h5, _, _⟩ := hN
    rcases h5.2 with ⟨hv, _⟩ | ⟨g', cap', cur, hv, hB, _⟩
    · cases hv
    · cases hv; omega
theorem addrT_any (w : World) (b R : Nat) (hs : Str w b (R + 3)) :
    Calls Tryz.prog 5 #[.pointer (some ⟨b, 0, none⟩)] w fun e w' => ∃ a : Ad, a.R ∧ e = .returned (adA a) ∧ Str w' b R ∧ w.grownBy w' (some b) := by
  refine (addr_any w b R hs).mono ?_
  rintro e w1 ⟨s, hi, lo, ⟨h1, h2, h3⟩, rfl, hs1, hg⟩
  refine ⟨⟨s, hi, lo⟩, ⟨⟨h1, h2⟩, fun hs => ?_⟩, rfl, hs1, hg⟩
  obtain ⟨e1, e2⟩ := h3 hs
  show num hi lo < 2 ^ 32
  subst e1
  have e : num 0 lo = lo.toNat := by unfold num; simp
  rw [e]
  omega
theorem ad_valT {a : Ad} (h : a.R) : Val a.n := inA_val (xs := [(a, a)]) (fun x hx => by rw [List.mem_singleton.1 hx]; exact ⟨h, h, rfl, Nat.le_refl _⟩) ⟨_, List.mem_singleton_self _, Nat.le_refl _, Nat.le_refl _⟩
theorem lookR_any (A : Option Addr) (n cap : Nat) (t : List En) (a : Ad) (w : World) (hS : SlE eEn w A n cap t) (hG : TbG t) (ha : a.R) :
    Calls Tryz.prog 8 #[.slice A n cap, adA a] w (GivesV (.tuple #[.string ⟨(lookT t a.n).toArray⟩, .bool (!(lookT t a.n).isEmpty), .int .i64 0]) w) := by
  have hl : n ≤ 100000 := by have h1 := hS.1; have h2 := hG.2.1; omega
  refine (lookup_any 0 A n cap t a w hS hl hG.u ha.1 (by rw [hG.tab, (adF_iff ha.1).2 ha.2]; rfl)).mono ?_
  rintro e w' ⟨s, rfl, hs, _, hb⟩
  rw [hs rfl]
  exact ⟨rfl, hb⟩

set_option maxHeartbeats 8000000 in
theorem tablesStay_walk (a : Option Addr) (len cap : Nat) (w : World) (hY : Rdy w) (hs0 : Str (w.alloc (.cells #[.slice a len cap, .int .i64 0] 25)) w.heap.size 1000) :
    Calls Tryz.prog 3 #[.slice a len cap] w fun e w' => e = .returned (.bool true) ∧ Below w.heap.size w w' := by
  have HRY := Lib.hid (fun W (h : Below w.heap.size w W) => ready_any W (Rdy.below hY h))
  clear hY
  go_enter Tryz.func3, Tryz.ntmps3
  go_wp2_with fail
  obtain ⟨w0, hw0⟩ : ∃ w0, w0 = w.alloc (.cells #[.slice a len cap, .int .i64 0] 25) := ⟨_, rfl⟩
  have hz0 : w0.heap.size = w.heap.size + 1 := by rw [hw0]; simp
  have hB0 := Lib.hid (show Below w.heap.size w w0 by rw [hw0]; exact (Below.refl _ _).alloc (Nat.le_refl _) _)
  rw [← hw0] at hs0 ⊢
  clear hw0
  obtain ⟨b, hb⟩ : ∃ b, b = w.heap.size := ⟨_, rfl⟩
  rw [← hb] at hz0 hs0 ⊢
  replace hb := Lib.hid hb
  refine (rightTable_any w0 b 900 (hs0.le (by omega))).mono ?_
  rintro e w1 ⟨At, nt, ct, t, rfl, hSt, hGt, hnt, hOt, hs1, hg⟩
  have hot := Lib.hid (own_over (N := 0) (b := b) hOt (by omega))
  replace hGt := Lib.hid hGt
  clear hOt hs0
  go_wp2_with fail
  refine (rightTable_any w1 b 800 (hs1.le (by omega))).mono ?_
  rintro e w2 ⟨Au, nu, cu, y, rfl, hSu, hGu, hnu, hOu, hs2, hg2⟩
  have hgs := hg.size
  have hou := Lib.hid (own_over (N := 0) (b := b) hOu (by omega))
  replace hGu := Lib.hid hGu
  replace hSt := sl_gbT hSt hot.out hg2
  replace hg := gb_trans hg hg2
  clear hOu hs1 hg2 hgs
  go_wp2_with fail
  refine (addrT_any w2 b 700 (hs2.le (by omega))).mono ?_
  rintro e w3 ⟨ad, haR, rfl, hs3, hg3⟩
  replace haR := Lib.hid haR
  replace hSt := sl_gbT hSt hot.out hg3
  replace hSu := sl_gbT hSu hou.out hg3
  replace hg := gb_trans hg hg3
  have hB := Lib.hid (show Below w.heap.size w w3 from hB0.out.trans (gb_toBelow hg (Nat.le_of_eq hb.out.symm) (by omega)))
  clear hs2 hs3 hg3 hg hB0 hot hou
  have S1 := stT_new rowAd (te := 30) w3 w3.heap.size rfl [.bool false, .int .u64 0, .int .u64 0] (adC ad) rfl rfl (adC_one ad)
  have hC := Blk.new w3 (adC ad) 30
  have hv3 : Below w3.heap.size w3 (w3.alloc (.cells (adC ad).toArray 30)) := (Below.refl _ _).alloc (Nat.le_refl _) _
  replace hSt := Lib.hid (hSt.below hv3)
  replace hSu := Lib.hid (hSu.below hv3)
  have hB4 := Lib.hid (hB.out.trans (hv3.mono hB.out.size))
  clear hv3
  go_upto_region 3 with fail
  clear S1 hB
  obtain ⟨p, hp⟩ : ∃ p, p = w3.heap.size := ⟨_, rfl⟩
  rw [← hp] at hC ⊢
  clear hp
  generalize w3.alloc (.cells (adC ad).toArray 30) = w4 at *
  have hbw := Below.refl w4.heap.size w4
  have hnt5 := Lib.hid (show nt ≤ 100000 by omega)
  have hnu5 := Lib.hid (show nu ≤ 100000 by omega)
  replace hC := Lib.hid hC
  have HQ1 := Lib.hid (squeeze_ok At nt ct t w4 hSt.out hnt5.out hGt.out.u hGt.out.tab)
  go_wp2_with fail
  refine HQ1.out.mono ?_
  rintro e w5 ⟨vx, rfl, hox, hv⟩
  replace hbw := hbw.trans hv
  have hGx := Lib.hid hGt.out.sq
  obtain ⟨Ax, cx, rfl, hSx⟩ := hox.sl
  obtain ⟨nx, hnx⟩ : ∃ n, n = (sqT t).length := ⟨_, rfl⟩
  rw [← hnx] at hSx ⊢
  have hnx5 := Lib.hid (show nx ≤ 100000 by have h1 := hGx.out.2.1; omega)
  replace hnx := Lib.hid hnx
  clear hv hox HQ1
  have HQ2 := Lib.hid (squeeze_ok Ax nx cx (sqT t) w5 hSx hnx5.out hGx.out.u hGx.out.tab)
  replace hSx := Lib.hid hSx
  go_wp2_with fail
  refine HQ2.out.mono ?_
  rintro e w6 ⟨vy, rfl, hoy, hv⟩
  rw [sq_twice hGt.out.d] at hoy
  obtain ⟨Ay, cy, rfl, hSy⟩ := hoy.sl
  rw [← hnx.out] at hSy ⊢
  replace hSx := Lib.hid (hSx.out.below hv)
  replace hbw := hbw.trans (hv.mono hbw.size)
  replace hSy := Lib.hid hSy
  clear hv hoy HQ2
  have HD1 := Lib.hid (differT_any 0 At nt ct t Ax nx cx (sqT t) w6 (hSt.out.below hbw) hnt5.out hGt.out.u hSx.out hnx5.out hGx.out.u (by rw [hGt.out.tab, hGx.out.tab]; rfl))
  go_wp2_with fail
  refine HD1.out.mono ?_
  rintro e w7 ⟨b1, i1, rfl, ⟨hd1, hd2⟩, hv⟩
  obtain rfl : i1 = false := by
    cases i1 with
    | false => rfl
    | true => exact absurd (sq_look hGt.out.d b1.n).symm (hd1 rfl).2.2.1
  replace hSx := Lib.hid (hSx.out.below hv)
  replace hSy := Lib.hid (hSy.out.below hv)
  replace hbw := hbw.trans (hv.mono hbw.size)
  clear hv hd1 hd2 HD1
  have S2 := stT_new rowAd (te := 30) w7 w7.heap.size rfl [.bool false, .int .u64 0, .int .u64 0] (adC b1) rfl rfl (adC_one b1)
  have hv : Below w7.heap.size w7 (w7.alloc (.cells (adC b1).toArray 30)) := (Below.refl _ _).alloc (Nat.le_refl _) _
  replace hSx := Lib.hid (hSx.out.below hv)
  replace hSy := Lib.hid (hSy.out.below hv)
  replace hbw := hbw.trans (hv.mono hbw.size)
  clear hv
  go_upto_region 6 with fail
  clear S2
  generalize w7.alloc (.cells (adC b1).toArray 30) = w8 at *
  obtain ⟨s1, hs1⟩ : ∃ s, s = lookT t ad.n := ⟨_, rfl⟩
  have HL1 := Lib.hid (lookR_any At nt ct t ad w8 (hSt.out.below hbw) hGt.out haR.out)
  rw [← hs1] at HL1
  have k1 := (hC.out.below hbw).ld rowAd rfl
  replace hs1 := Lib.hid hs1
  obtain ⟨o1, ho1⟩ : ∃ o, o = !s1.isEmpty := ⟨_, rfl⟩
  rw [← ho1] at HL1
  replace ho1 := Lib.hid ho1
  go_wp2_with fail
  refine HL1.out.mono ?_
  rintro e w9 ⟨rfl, hv⟩
  replace hSx := Lib.hid (hSx.out.below hv)
  replace hSy := Lib.hid (hSy.out.below hv)
  replace hbw := hbw.trans (hv.mono hbw.size)
  clear hv HL1 k1
  have HL2 := Lib.hid (lookR_any Ax nx cx (sqT t) ad w9 hSx.out hGx.out haR.out)
  rw [sq_look hGt.out.d, ← hs1.out, ← ho1.out] at HL2
  have k1 := (hC.out.below hbw).ld rowAd rfl
  go_wp2_with fail
  refine HL2.out.mono ?_
  rintro e w10 ⟨rfl, hv⟩
  replace hSx := Lib.hid (hSx.out.below hv)
  replace hSy := Lib.hid (hSy.out.below hv)
  replace hbw := hbw.trans (hv.mono hbw.size)
  clear hv HL2 k1
  have HEQ := Lib.hid (equalEn_any Ax Ay nx nx cx cy (sqT t) (sqT t) w10 hSx.out hSy.out (by have := hnx5.out; omega) (by have := hnx5.out; omega))
  go_wp2_with fail
  refine HEQ.out.mono ?_
  rintro e w11 ⟨q, rfl, hq, hv⟩
  obtain rfl : q = true := hq.2 (by trivial)
  replace hbw := hbw.trans (hv.mono hbw.size)
  clear hv hq HEQ hSx hSy
  have HD2 := Lib.hid (differT_any 0 At nt ct t Au nu cu y w11 (hSt.out.below hbw) hnt5.out hGt.out.u (hSu.out.below hbw) hnu5.out hGu.out.u (by rw [hGt.out.tab, hGu.out.tab]; rfl))
  go_wp2_with fail
  refine HD2.out.mono ?_
  rintro e w12 ⟨b2, i2, rfl, hd, hv⟩
  replace hbw := hbw.trans (hv.mono hbw.size)
  clear hv HD2
  have S3 := stT_new rowAd (te := 30) w12 w12.heap.size rfl [.bool false, .int .u64 0, .int .u64 0] (adC b2) rfl rfl (adC_one b2)
  have hv : Below w12.heap.size w12 (w12.alloc (.cells (adC b2).toArray 30)) := (Below.refl _ _).alloc (Nat.le_refl _) _
  have hC2 := Blk.new w12 (adC b2) 30
  replace hbw := hbw.trans (hv.mono hbw.size)
  clear hv
  go_upto_region 11 with fail
  clear S3
  obtain ⟨p2, hp2⟩ : ∃ p, p = w12.heap.size := ⟨_, rfl⟩
  rw [← hp2] at hC2 ⊢
  clear hp2
  generalize w12.alloc (.cells (adC b2).toArray 30) = w13 at *
  obtain ⟨hd1, hd2⟩ := hd
  cases i2 with
  | true =>
    obtain ⟨_, hbR, hne, _⟩ := hd1 rfl
    obtain ⟨s3, hs3⟩ : ∃ s, s = lookT t b2.n := ⟨_, rfl⟩
    obtain ⟨s4, hs4⟩ : ∃ s, s = lookT y b2.n := ⟨_, rfl⟩
    rw [← hs3, ← hs4] at hne
    have bne : (s3 == s4) = false := by rw [beq_eq_false_iff_ne]; exact hne
    have HL3 := Lib.hid (lookR_any At nt ct t b2 w13 (hSt.out.below hbw) hGt.out hbR)
    rw [← hs3] at HL3
    have HL4 := Lib.hid (fun W (hW : Below w4.heap.size w4 W) => lookR_any Au nu cu y b2 W (hSu.out.below hW) hGu.out hbR)
    rw [← hs4] at HL4
    have k1 := hC2.ld rowAd rfl
    clear hd1 hd2 hne hs3 hs4 hbR
    obtain ⟨o3, ho3⟩ : ∃ o, o = !s3.isEmpty := ⟨_, rfl⟩
    rw [← ho3] at HL3
    obtain ⟨o4, ho4⟩ : ∃ o, o = !s4.isEmpty := ⟨_, rfl⟩
    rw [← ho4] at HL4
    clear ho3 ho4
    go_wp2_with fail
    refine HL3.out.mono ?_
    rintro e w14 ⟨rfl, hv⟩
    replace hC2 := hC2.below hv
    replace hbw := hbw.trans (hv.mono hbw.size)
    clear hv HL3 k1
    have k1 := hC2.ld rowAd rfl
    go_wp2_with fail
    refine (HL4.out _ hbw).mono ?_
    rintro e w15 ⟨rfl, hv⟩
    replace hbw := hbw.trans (hv.mono hbw.size)
    have hB15 := hB4.out.trans (hbw.mono hB4.out.size)
    clear hv HL4 k1
    go_wp2_with fail
    refine (HRY.out _ hB15).mono ?_
    rintro e w16 ⟨rfl, hv⟩
    have hB16 := hB15.trans (hv.mono hB15.size)
    clear hv
    go_wp2_with fail
    go_ret
    exact ⟨rfl, hB16⟩
  | false =>
    have hsame := (hd2 rfl).2 rfl ad.n (ad_valT haR.out)
    have HL3 := Lib.hid (lookR_any At nt ct t ad w13 (hSt.out.below hbw) hGt.out haR.out)
    rw [← hs1.out, ← ho1.out] at HL3
    have HL4 := Lib.hid (fun W (hW : Below w4.heap.size w4 W) => lookR_any Au nu cu y ad W (hSu.out.below hW) hGu.out haR.out)
    rw [← hsame, ← hs1.out, ← ho1.out] at HL4
    have k1 := (hC.out.below hbw).ld rowAd rfl
    clear hd1 hd2 hsame
    go_wp2_with fail
    refine HL3.out.mono ?_
    rintro e w14 ⟨rfl, hv⟩
    replace hbw := hbw.trans (hv.mono hbw.size)
    clear hv HL3 k1
    have k1 := (hC.out.below hbw).ld rowAd rfl
    go_wp2_with fail
    refine (HL4.out _ hbw).mono ?_
    rintro e w15 ⟨rfl, hv⟩
    replace hbw := hbw.trans (hv.mono hbw.size)
    have hB15 := hB4.out.trans (hbw.mono hB4.out.size)
    clear hv HL4 k1
    go_wp2_with fail
    refine (HRY.out _ hB15).mono ?_
    rintro e w16 ⟨rfl, hv⟩
    have hB16 := hB15.trans (hv.mono hB15.size)
    clear hv
    go_wp2_with fail
    go_ret
    exact ⟨rfl, hB16⟩
end Go.Proofs.YtfbggfpihiegpaaGreatDoor
