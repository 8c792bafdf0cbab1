/- SetsTell returns true for every list of numbers that comes in, and the list reads as before: no conditions but the listed variables, which the card ties to the program's text. -/
import Derived.Test.YthjhokicojgpbaaGreatDoorKcSwO
import Derived.Test.YthjhokicojgpbaaGreatDoorKcSuE
import Derived.Test.YthjhokicojgpbaaGreatDoorKcSwI
import Derived.Test.YthjhokicojgpbaaGreatDoorKcSwN
import Derived.Test.YthjhokicojgpbaaGreatDoorKcFrameS
namespace Go.Proofs.YthjhokicojgpbaaGreatDoor
open Go.RowKit
set_option linter.unusedVariables false
set_option linter.unusedSimpArgs false

theorem len_both {xs ys : List Pf} (hR : ∀ p ∈ xs, p.R) (hR' : ∀ p ∈ ys, p.R) {zs : List (Ad × Ad)} (h : Tells zs (fun m => InA (xs.map rgP) m ∧ InA (ys.map rgP) m)) : (pfsOf (zs.map rowA)).length ≤ xs.length + ys.length + 2 := by
  unfold pfsOf
  rw [List.length_map]
  refine Nat.le_trans (blocks_le h (xs.map blk ++ ys.map blk) [] (alL_app (blks_ok hR).1 (blks_ok hR').1) alL_nil (fun m m' h1 hv h2 => .inl ?_)) (by rw [List.length_append, List.length_map, List.length_map, List.length_nil]; omega)
  rw [inA_rgP hR, inA_rgP hR'] at h1 h2
  obtain ⟨⟨p, hp, hm⟩, ⟨q, hq, hm'⟩⟩ := h1
  by_cases hh : ∃ p ∈ xs, InB (blk p) m'
  · exact ⟨blk q, List.mem_append_right _ (List.mem_map_of_mem hq), hm', fun h => h2 ⟨hh, ⟨q, hq, h⟩⟩⟩
  · exact ⟨blk p, List.mem_append_left _ (List.mem_map_of_mem hp), hm, fun h => hh ⟨p, hp, h⟩⟩
theorem sizeV_two (xs : List Pf) : ∃ sz, sizeV xs = .tuple #[.string sz, .int .i64 (setF xs)] ∧ (setF xs = 0 → sz = decS (sizeN xs)) ∧ (setF xs ≠ 0 → sz = ByteArray.empty) := by
  unfold sizeV
  by_cases h : setF xs = 0
  · exact ⟨decS (sizeN xs), by rw [if_pos h, h], fun _ => rfl, fun g => absurd h g⟩
  · exact ⟨ByteArray.empty, by rw [if_neg h], fun g => absurd g h, fun _ => rfl⟩

set_option maxRecDepth 100000 in
set_option maxHeartbeats 8000000 in
theorem setsTell_walk (a : Option Addr) (len cap R : Nat) (w : World) (hT : Tz w) (hs0 : Str (w.alloc (.cells #[.slice a len cap, .int .i64 0] 25)) w.heap.size (R + 22 + 42 + 42)) :
    Calls Tryz.prog 6 #[.slice a len cap] w fun e w' => e = .returned (.bool true) ∧ Below w.heap.size w w' := by
  clear hT
  go_enter Tryz.func6, Tryz.ntmps6
  go_wp2_with fail
  obtain ⟨w0, hw0⟩ : ∃ w0, w0 = w.alloc (.cells #[.slice a len cap, .int .i64 0] 25) := ⟨_, rfl⟩
  have hz0 : w0.heap.size = w.heap.size + 1 := by rw [hw0]; simp
  have hB0 := Lib.hid (show Below w.heap.size w w0 by rw [hw0]; exact (Below.refl _ _).alloc (Nat.le_refl _) _)
  rw [← hw0] at hs0 ⊢
  clear hw0
  obtain ⟨b, hb⟩ : ∃ b, b = w.heap.size := ⟨_, rfl⟩
  rw [← hb] at hz0 hs0 ⊢
  replace hb := Lib.hid hb
  refine (set_any w0 b (R + 22 + 42) hs0).mono ?_
  rintro e w1 ⟨xs, vx, ⟨hx1, hx2⟩, rfl, hox, hs1, hg⟩
  have hX := Lib.hid (show xs.length ≤ 6 ∧ ∀ p ∈ xs, p.U from ⟨hx1, hx2⟩)
  clear hx1 hx2 hs0
  replace hox := hox.mono (show b + 1 ≤ w0.heap.size by omega)
  have nx : vx.ownBlock ≠ some b := fun e => by have := hox.lt b e; omega
  go_wp2_with fail
  refine (set_any w1 b (R + 22) hs1).mono ?_
  rintro e w2 ⟨ys, vy, ⟨hy1, hy2⟩, rfl, hoy, hs2, hg2⟩
  have hY := Lib.hid (show ys.length ≤ 6 ∧ ∀ p ∈ ys, p.U from ⟨hy1, hy2⟩)
  replace hoy := hoy.mono (show b + 1 ≤ w1.heap.size by have := hg.size; omega)
  have ny : vy.ownBlock ≠ some b := fun e => by have := hoy.lt b e; omega
  replace hox := hox.gb hg2 (.inr nx)
  replace hg := gb_trans hg hg2
  clear hg2 hs1 hy1 hy2
  go_wp2_with fail
  refine (raw_any w2 b (R + 16) hs2).mono ?_
  rintro e w3 ⟨s, hi, lo, hA, rfl, hs3, hg3⟩
  obtain ⟨q, hq⟩ : ∃ p : Ad, p = ⟨s, hi, lo⟩ := ⟨_, rfl⟩
  have hqU := Lib.hid (show q.U by rw [hq]; exact hA)
  have hqv : adV s hi lo = adA q := by rw [hq]; rfl
  rw [hqv]
  replace hox := hox.gb hg3 (.inr nx)
  replace hoy := hoy.gb hg3 (.inr ny)
  replace hg := gb_trans hg hg3
  clear hg3 hs2 hq hqv hA
  have S6 := stT_new rowAd (te := 28) w3 w3.heap.size rfl [.bool false, .int .u64 0, .int .u64 0] (adC q) rfl rfl (adC_one q)
  go_upto_region 3 with fail
  have h6 := Blk.new w3 (adC q) 28
  have hb6 : b < w3.heap.size := hs3.lt
  have hp6 : w0.heap.size ≤ w3.heap.size := hg.size
  have nx6 : vx.ownBlock ≠ some w3.heap.size := fun e => by have := hox.lt _ e; omega
  have ny6 : vy.ownBlock ≠ some w3.heap.size := fun e => by have := hoy.lt _ e; omega
  replace hox := hox.alloc' (.cells (adC q).toArray 28)
  replace hoy := hoy.alloc' (.cells (adC q).toArray 28)
  replace hs3 := hs3.alloc (.cells (adC q).toArray 28)
  replace hg := gb_alloc hg (.cells (adC q).toArray 28)
  clear S6
  generalize World.alloc w3 (.cells (adC q).toArray 28) = w4 at *
  generalize w3.heap.size = p6 at *
  obtain ⟨Ax, cx, hvx, _⟩ := hox.sl
  obtain ⟨Ay, cy, hvy, _⟩ := hoy.sl
  subst hvx hvy
  obtain ⟨nnx, hnx⟩ : ∃ n, n = xs.length := ⟨_, rfl⟩
  obtain ⟨nny, hny⟩ : ∃ n, n = ys.length := ⟨_, rfl⟩
  rw [← hnx] at hox nx nx6 ⊢
  rw [← hny] at hoy ny ny6 ⊢
  have hnx6 : nnx ≤ 6 := by rw [hnx]; exact hX.out.1
  have hny6 : nny ≤ 6 := by rw [hny]; exact hY.out.1
  replace hnx := Lib.hid hnx
  replace hny := Lib.hid hny
  have HSX := Lib.hid (fun W (h : OwnE ePf 52 (b + 1) W (.slice Ax nnx cx) xs) => (show SlE ePf W Ax nnx cx xs by obtain ⟨A', c', e, hS⟩ := h.sl; cases e; rw [hnx.out]; exact hS))
  have HSY := Lib.hid (fun W (h : OwnE ePf 52 (b + 1) W (.slice Ay nny cy) ys) => (show SlE ePf W Ay nny cy ys by obtain ⟨A', c', e, hS⟩ := h.sl; cases e; rw [hny.out]; exact hS))
  go_cut [31] (fun s31 wx => ∃ t, s31 = .bool t ∧ Hid (t = true → setF xs = 0) ∧ OwnE ePf 52 (b + 1) wx (.slice Ax nnx cx) xs ∧ OwnE ePf 52 (b + 1) wx (.slice Ay nny cy) ys ∧ Blk wx p6 (adC q) 28 ∧ Str wx b (R + 15) ∧ w0.grownBy wx (some b))
  case first => as_aux_lemma =>
    go_wp2_with fail
    refine (flip_any 2 w4 b (R + 15) (by decide) (by decide) hs3).mono ?_
    rintro e w5 ⟨r, rfl, hs5, hg5⟩
    have h65 := h6.gb hg5 hb6
    replace hox := hox.gb hg5 (.inr nx)
    replace hoy := hoy.gb hg5 (.inr ny)
    replace hg := gb_trans hg hg5
    clear hg5 hs3 h6
    cases r
    · go_wp2_with fail
      go_meet
      exact ⟨_, rfl, Lib.hid (fun h => by cases h), hox, hoy, h65, hs5, hg⟩
    · have HF := Lib.hid (setFault_any Ax nnx cx xs w5 (HSX.out _ hox) (by omega) hX.out.2)
      obtain ⟨E, hE⟩ : ∃ E, E = setF xs := ⟨_, rfl⟩
      rw [← hE] at HF
      replace hE := Lib.hid hE
      go_wp2_with fail
      refine HF.out.mono ?_
      rintro e w6 ⟨rfl, hv⟩
      replace h65 := h65.below hv
      replace hox := hox.below hv
      replace hoy := hoy.below hv
      replace hs5 := hs5.below hv
      replace hg := gb_below hg hv
      clear hv HF
      by_cases h0 : E = 0
      · have b0 : (E == 0) = true := by simp [h0]
        have hfin := Lib.hid (show setF xs = 0 by rw [← hE.out]; exact h0)
        clear h0
        go_wp2_with fail
        go_meet
        exact ⟨_, rfl, Lib.hid (fun _ => hfin.out), hox, hoy, h65, hs5, hg⟩
      · have b0 : (E == 0) = false := by simp [h0]
        clear h0
        go_wp2_with fail
        go_meet
        exact ⟨_, rfl, Lib.hid (fun h => by cases h), hox, hoy, h65, hs5, hg⟩
  case rest =>
  clear hox hoy h6 hs3 hg
  obtain ⟨t, rfl, ht, hox, hoy, h6, hs5, hg⟩ := hcut
  go_upto_if 31 with fail
  go_cut [5] (fun v5 wx => ∃ (Az : Option Addr) (nz cz : Nat) (zs : List Pf), v5 = .slice Az nz cz ∧ nz ≤ 200 ∧ Hid (∀ p ∈ zs, p.U) ∧ Hid (SlE ePf wx Az nz cz zs) ∧ OwnE ePf 52 (b + 1) wx (.slice Ax nnx cx) xs ∧ Blk wx p6 (adC q) 28 ∧ w0.grownBy wx (some b))
  case first => as_aux_lemma =>
    cases t
    · go_wp2_with fail
      go_meet
      exact ⟨_, _, _, ys, rfl, by omega, Lib.hid hY.out.2, Lib.hid (HSY.out _ hoy), hox, h6, hg⟩
    · have hR := Lib.hid (setF_ok hX.out.2 (ht.out rfl))
      clear ht hoy
      go_wp2_with fail
      refine (prefixes_any 3 _ b R (by omega) hs5).mono ?_
      rintro e w8 ⟨qs, vq, ⟨hq1, hq2⟩, rfl, hoq, hs8, hg8⟩
      replace h6 := h6.gb hg8 hb6
      replace hox := hox.gb hg8 (.inr nx)
      replace hg := gb_trans hg hg8
      obtain ⟨Aq, cq, rfl, hSq⟩ := hoq.sl
      have HL := Lib.hid (leastOf_any Aq qs.length cq qs w8 hSq (by omega) hq2)
      have hlq := Lib.hid (fun yl (hj : Joined yl (qs.map rgP)) => (show (pfsOf (yl.map rowA)).length ≤ 3 by have := (leastP_same hq2 hj).2; omega))
      clear hg8 hs8 hs5 hoq hSq hq1 hq2
      generalize qs.length = nq at *
      go_wp2_with fail
      refine HL.out.mono ?_
      rintro e w9 ⟨yl, hj, hjl, ⟨v, rfl, ho⟩, hv⟩
      have hl3 := hlq.out yl hj
      have hjR := pfsOf_R hj.2.2
      obtain ⟨Al, cl, rfl, hSl⟩ := ho.sl
      replace h6 := h6.below hv
      replace hox := hox.below hv
      replace hg := gb_below hg hv
      have HB := Lib.hid (bothOf_any 6 3 Ax Al nnx cx _ cl xs _ w9 (HSX.out _ hox) hSl (by omega) (by omega) hR.out hjR (fun z hz => by have := rowsLe_len xs z hz; have := hX.out.1; omega) (fun z hz => by have := rowsLe_len _ z hz; omega) (by omega) (by omega))
      have hlen := Lib.hid (fun zs (h : Tells zs (fun m => InA (xs.map rgP) m ∧ InA ((pfsOf (yl.map rowA)).map rgP) m)) => (show (pfsOf (zs.map rowA)).length ≤ 200 by have := len_both hR.out hjR h; have := hX.out.1; omega))
      clear HL hlq hj hjl ho hv hSl hjR hl3
      generalize pfsOf (yl.map rowA) = ls at *
      generalize ls.length = nl at *
      go_wp2_with fail
      refine HB.out.mono ?_
      rintro e w10 ⟨zl, hz, ⟨v, rfl, ho⟩, hv⟩
      replace h6 := h6.below hv
      replace hox := hox.below hv
      replace hg := gb_below hg hv
      have hzl := hlen.out zl hz
      have hzR := Lib.hid (show ∀ p ∈ pfsOf (zl.map rowA), p.U from fun p hp => (pfsOf_R hz.2.2 p hp).u)
      obtain ⟨Az, cz, rfl, hSz⟩ := ho.sl
      replace hSz := Lib.hid hSz
      clear HB hlen hz ho hv
      generalize pfsOf (zl.map rowA) = zs at *
      generalize zs.length = nz at *
      go_wp2_with fail
      go_meet
      exact ⟨_, _, _, zs, rfl, hzl, hzR, hSz, hox, h6, hg⟩
  case rest =>
  clear hox hoy h6 hs5 hg ht HSY hY hny hny6 ny ny6
  obtain ⟨Az, nz, cz, zs, rfl, hnz, hZU, hSz, hox, h6, hg⟩ := hcut
  rename_i wc
  have hB := Lib.hid (show Below w.heap.size w wc from hB0.out.trans (gb_toBelow hg (Nat.le_of_eq hb.out.symm) (by omega)))
  have hSx := HSX.out _ hox
  have hSz' := hSz.out
  have HH := Lib.hid (fun W (hW : Below wc.heap.size wc W) => addrHas_any q Ax nnx cx xs W (hSx.below hW) (by omega) hX.out.2 hqU.out)
  have HC := Lib.hid (fun W (hW : Below wc.heap.size wc W) => covers_any Ax Az nnx cx nz cz xs zs W (hSx.below hW) (hSz'.below hW) (by omega) (by omega) hX.out.2 hZU.out)
  have HZ := Lib.hid (fun W (hW : Below wc.heap.size wc W) => size_any Ax nnx cx xs W (hSx.below hW) (by omega) hX.out.2)
  have HF1 := Lib.hid (fun W (hW : Below wc.heap.size wc W) => setFault_any Ax nnx cx xs W (hSx.below hW) (by omega) hX.out.2)
  have HF2 := Lib.hid (fun W (hW : Below wc.heap.size wc W) => setFault_any Az nz cz zs W (hSz'.below hW) (by omega) hZU.out)
  have HFA := Lib.hid (fun W => addrFault_n q W hqU.out)
  have HO := Lib.hid (fun W (hW : Below wc.heap.size wc W) (h1 : setF xs = 0) (h2 : adEr q = 0) => hasOf_any q Ax nnx cx xs W (hSx.below hW) (by omega) (setF_ok hX.out.2 h1) ((adEr_iff hqU.out).1 h2))
  have HK := Lib.hid (fun W (hW : Below wc.heap.size wc W) (h1 : setF xs = 0) (h2 : setF zs = 0) => coversOf_any Ax Az nnx cx nz cz xs zs W (hSx.below hW) (hSz'.below hW) (by omega) (by omega) (setF_ok hX.out.2 h1) (setF_ok hZU.out h2) (setF_least h1))
  have HN := Lib.hid (fun W (hW : Below wc.heap.size wc W) (h1 : setF xs = 0) => sizeOf_any Ax nnx cx xs W (hSx.below hW) (by omega) (setF_ok hX.out.2 h1))
  obtain ⟨sz, hsz, hsz0, hsz1⟩ := sizeV_two xs
  rw [hsz] at HZ
  clear hSx hSz hSz' hox HSX hnx hX hZU hsz
  obtain ⟨V, hV⟩ : ∃ V, V = inS xs q.n := ⟨_, rfl⟩
  rw [← hV] at HH HO
  clear hV
  obtain ⟨E1, hE1⟩ : ∃ E, E = setF xs := ⟨_, rfl⟩
  obtain ⟨E2, hE2⟩ : ∃ E, E = setF zs := ⟨_, rfl⟩
  obtain ⟨EA, hEA⟩ : ∃ E, E = adEr q := ⟨_, rfl⟩
  rw [← hE1] at HH HC HZ HF1 HO HK HN hsz0 hsz1
  rw [← hE2] at HC HF2 HK
  rw [← hEA] at HH HFA HO
  clear hE1 hE2 hEA
  obtain ⟨EB, hEB⟩ : ∃ E, E = firstZ [E1, E2] := ⟨_, rfl⟩
  obtain ⟨EH, hEH⟩ : ∃ E, E = firstZ [E1, EA] := ⟨_, rfl⟩
  rw [← hEB] at HC
  rw [← hEH] at HH
  have hEB0 := Lib.hid (show EB = 0 ↔ E1 = 0 ∧ E2 = 0 by rw [hEB]; exact firstZ_both _ _)
  have hEH0 := Lib.hid (show EH = 0 ↔ E1 = 0 ∧ EA = 0 by rw [hEH]; exact firstZ_both _ _)
  replace hEB := Lib.hid hEB
  replace hEH := Lib.hid hEH
  replace hsz0 := Lib.hid hsz0
  replace hsz1 := Lib.hid hsz1
  have hbw := Below.refl wc.heap.size wc
  have k1 := h6.ld rowAd rfl
  have H1 := Lib.hid (HH.out _ hbw)
  clear HH
  go_wp2_with fail
  refine H1.out.mono ?_
  rintro e u1 ⟨bh, rfl, hh0, hh1, hv⟩
  replace h6 := h6.below hv
  replace hbw := hbw.trans (hv.mono hbw.size)
  clear hv H1 k1
  have H1 := Lib.hid (HC.out _ hbw)
  clear HC
  go_wp2_with fail
  refine H1.out.mono ?_
  rintro e u2 ⟨bc, ms, rfl, hc0, hc1, hv⟩
  replace hc0 := Lib.hid hc0
  replace hc1 := Lib.hid hc1
  replace h6 := h6.below hv
  replace hbw := hbw.trans (hv.mono hbw.size)
  clear hv H1
  have H1 := Lib.hid (HZ.out _ hbw)
  clear HZ
  go_wp2_with fail
  refine H1.out.mono ?_
  rintro e u3 ⟨rfl, hv⟩
  replace h6 := h6.below hv
  replace hbw := hbw.trans (hv.mono hbw.size)
  clear hv H1
  have H1 := Lib.hid (HF1.out _ hbw)
  go_wp2_with fail
  refine H1.out.mono ?_
  rintro e u4 ⟨rfl, hv⟩
  replace h6 := h6.below hv
  replace hbw := hbw.trans (hv.mono hbw.size)
  clear hv H1
  have H1 := Lib.hid (HF1.out _ hbw)
  go_wp2_with fail
  refine H1.out.mono ?_
  rintro e u5 ⟨rfl, hv⟩
  replace h6 := h6.below hv
  replace hbw := hbw.trans (hv.mono hbw.size)
  clear hv H1
  have H1 := Lib.hid (HF2.out _ hbw)
  go_wp2_with fail
  refine H1.out.mono ?_
  rintro e u6 ⟨rfl, hv⟩
  replace h6 := h6.below hv
  replace hbw := hbw.trans (hv.mono hbw.size)
  clear hv H1
  clear HF1 HF2
  have hN := Blk.new u6 ([E1, E2].map (Value.int .i64)) 30
  have HE := Lib.hid (errs_blk [E1, E2] _ 2 _ _ hN (by simp))
  rw [← hEB.out] at HE
  have hal : Below u6.heap.size u6 (u6.alloc (.cells ([E1, E2].map (Value.int .i64)).toArray 30)) := (Below.refl _ _).alloc (Nat.le_refl _) _
  replace h6 := h6.below hal
  replace hbw := hbw.trans (hal.mono hbw.size)
  clear hN hal
  go_wp2_with fail
  refine HE.out.mono ?_
  rintro e u7 ⟨rfl, rfl⟩
  clear HE
  generalize World.alloc u6 (.cells ([E1, E2].map (Value.int .i64)).toArray 30) = u7 at *
  have k1 := h6.ld rowAd rfl
  have H1 := Lib.hid (HFA.out u7)
  clear HFA
  go_wp2_with fail
  refine H1.out.mono ?_
  rintro e u8 ⟨rfl, hv⟩
  replace h6 := h6.below hv
  replace hbw := hbw.trans (hv.mono hbw.size)
  clear hv H1 k1
  have hN := Blk.new u8 ([E1, EA].map (Value.int .i64)) 30
  have HE := Lib.hid (errs_blk [E1, EA] _ 2 _ _ hN (by simp))
  rw [← hEH.out] at HE
  have hal : Below u8.heap.size u8 (u8.alloc (.cells ([E1, EA].map (Value.int .i64)).toArray 30)) := (Below.refl _ _).alloc (Nat.le_refl _) _
  replace h6 := h6.below hal
  replace hbw := hbw.trans (hal.mono hbw.size)
  clear hN hal
  go_wp2_with fail
  refine HE.out.mono ?_
  rintro e u9 ⟨rfl, rfl⟩
  clear HE
  generalize World.alloc u8 (.cells ([E1, EA].map (Value.int .i64)).toArray 30) = u9 at *
  have k1 := h6.ld rowAd rfl
  clear h6
  have dd1 : (EB == EB) = true := beq_self_eq_true _
  have dd2 : (EH == EH) = true := beq_self_eq_true _
  have dd3 : (E1 == E1) = true := beq_self_eq_true _
  go_upto_region 10 with fail
  go_cut [101] (fun v101 wx => v101 = .bool false ∧ Below wc.heap.size wc wx)
  case first => as_aux_lemma =>
    by_cases hH : EH = 0
    · have c1 : (EH == 0) = true := by simp [hH]
      have hbh : bh = V := hh0.out hH
      subst hbh
      have H1 := Lib.hid (HO.out _ hbw (hEH0.out.1 hH).1 (hEH0.out.1 hH).2)
      clear hH HO hh0 hh1
      have dd4 : (bh == bh) = true := beq_self_eq_true _
      go_wp2_with fail
      refine H1.out.mono ?_
      rintro e u10 ⟨rfl, hv⟩
      replace hbw := hbw.trans (hv.mono hbw.size)
      clear hv H1 k1
      by_cases hB : EB = 0
      · have c2 : (EB == 0) = true := by simp [hB]
        have H1 := Lib.hid (HK.out _ hbw (hEB0.out.1 hB).1 (hEB0.out.1 hB).2)
        have hm := Lib.hid (hc0.out hB).2.2.1
        have hm' := Lib.hid (hc0.out hB).2.2.2
        clear hB HK hc0 hc1
        go_wp2_with fail
        refine H1.out.mono ?_
        rintro e u11 ⟨bk, rfl, hk, hv⟩
        replace hbw := hbw.trans (hv.mono hbw.size)
        have hbb : bk = bc := by rw [Bool.eq_iff_iff, hk ms hm.out, hm'.out]
        subst hbb
        clear hv H1 hm hm' hk
        have dd5 : (bk == bk) = true := beq_self_eq_true _
        go_wp2_with fail
        go_meet
        exact ⟨rfl, hbw⟩
      · have c2 : (EB == 0) = false := by simp [hB]
        have hbb : bc = false := hc1.out hB
        subst hbb
        clear hB HK hc0 hc1
        go_wp2_with fail
        go_meet
        exact ⟨rfl, hbw⟩
    · have c1 : (EH == 0) = false := by simp [hH]
      have hbh : bh = false := hh1.out hH
      subst hbh
      clear hH HO hh0 hh1
      by_cases hB : EB = 0
      · have c2 : (EB == 0) = true := by simp [hB]
        have H1 := Lib.hid (HK.out _ hbw (hEB0.out.1 hB).1 (hEB0.out.1 hB).2)
        have hm := Lib.hid (hc0.out hB).2.2.1
        have hm' := Lib.hid (hc0.out hB).2.2.2
        clear hB HK hc0 hc1 k1
        go_wp2_with fail
        refine H1.out.mono ?_
        rintro e u11 ⟨bk, rfl, hk, hv⟩
        replace hbw := hbw.trans (hv.mono hbw.size)
        have hbb : bk = bc := by rw [Bool.eq_iff_iff, hk ms hm.out, hm'.out]
        subst hbb
        clear hv H1 hm hm' hk
        have dd5 : (bk == bk) = true := beq_self_eq_true _
        go_wp2_with fail
        go_meet
        exact ⟨rfl, hbw⟩
      · have c2 : (EB == 0) = false := by simp [hB]
        have hbb : bc = false := hc1.out hB
        subst hbb
        clear hB HK hc0 hc1 k1
        go_wp2_with fail
        go_meet
        exact ⟨rfl, hbw⟩
  case rest =>
  clear hbw HO HK hc0 hc1 hh0 hh1 k1 hEB hEH hEB0 hEH0
  obtain ⟨rfl, hbw⟩ := hcut
  by_cases hE : E1 = 0
  · have c1 : (E1 == 0) = true := by simp [hE]
    have hss := hsz0.out hE
    have H1 := Lib.hid (HN.out _ hbw hE)
    rw [← hss] at H1
    clear hE hsz0 hsz1 hss HN
    have dd6 : (sz.data.toList == sz.data.toList) = true := beq_self_eq_true _
    go_wp2_with fail
    refine H1.out.mono ?_
    rintro e u12 ⟨rfl, hv⟩
    replace hbw := hbw.trans (hv.mono hbw.size)
    clear hv H1
    go_wp2_with fail
    refine (addressed_any _).mono ?_
    rintro e w20 ⟨rfl, hb9⟩
    replace hbw := hbw.trans (hb9.mono hbw.size)
    clear hb9
    go_wp2_with fail
    go_ret
    exact ⟨rfl, hB.out.trans (hbw.mono hB.out.size)⟩
  · have c1 : (E1 == 0) = false := by simp [hE]
    have hss := hsz1.out hE
    subst hss
    have hE' : ¬ E1 = 0 := hE
    have n1 := Lib.hid (show (E1 != 0) = true by simp [hE])
    clear hE hsz0 hsz1 HN
    go_wp2_with fail
    refine (addressed_any _).mono ?_
    rintro e w20 ⟨rfl, hb9⟩
    replace hbw := hbw.trans (hb9.mono hbw.size)
    clear hb9
    go_wp2_with fail
    go_ret
    exact ⟨by show Ending.returned (.bool (E1 != 0)) = _; rw [n1.out], hB.out.trans (hbw.mono hB.out.size)⟩
end Go.Proofs.YthjhokicojgpbaaGreatDoor
namespace Go.Proofs.YthjhokicojgpbaaGreatDoor
open Go.ChangeShapes Go.WideShapes Go.ChangeAt Go.WideElems Go.RowKit

set_option maxRecDepth 100000 in
theorem setsTell_lifted (os : Os) (started : os.Started) (H : Type) (enc : TypeId × Value → H) :
    ReturnsInHanded {} Tryz.checked os 6 .any (fun w args => (Rows.setsTellSpec.pre enc Tryz.prog Tryz.f6 [] false w args ∧ laidMetH Tryz.prog laidZ w) ∧ sizedMet enc Tryz.prog Tryz.f6 (OpenSpec.ofChange Rows.setsTellSpec) false w args)
      (Rows.setsTellSpec.post enc Tryz.prog Tryz.f6 false true false false) := by
  refine returnsInHanded_of_calls (C := Tryz.checked) own started (by kernel_rfl)
    (ChangeSpec.witness_shaped (enc := enc) (C := Tryz.checked) (os := os) (X := fun w _ => laidMetH Tryz.prog laidZ w) false (World.laidAll Tryz.prog os laidZ) #[.slice none 0 0] 8 (World.laidAll_os _ _ _) (World.shaped_of_ZipB (by kernel_rfl) (by kernel_rfl)) (by kernel_rfl) (by kernel_rfl) (by kernel_rfl) (laidZ_met os _)) ?_
  intro w tape inp _ hsh _ hok hpre _
  obtain ⟨_, _, _, fn', hfn', _, _, _, _, hval⟩ := hok
  obtain rfl : fn' = Tryz.f6 := Option.some.inj (hfn'.symm.trans Tryz.func6)
  obtain ⟨⟨⟨ds, gs, before, hw, _⟩, hL0⟩, _⟩ := hpre
  have hW := DataW.Whole.of_heap (w' := w.forCall tape inp) (by rfl) hw
  have hL : laidMetH Tryz.prog laidZ (w.forCall tape inp) := hL0.of_heap (by rfl)
  have hcons := tz_of_laid hL
  clear hw hL0 hL hsh
  generalize w.forCall tape inp = W at *
  generalize inp.args = args at *
  suffices hmain : Calls Tryz.prog 6 args W fun e W' => ∃ v, e = .returned v ∧ Rows.setsTellSpec.post enc Tryz.prog Tryz.f6 false true false false W args v W' by
    refine hmain.mono fun e W' ⟨v, he, hp⟩ => ?_
    subst he
    exact ChangeSpec.post_blind hp
  have hW' := hW
  obtain ⟨p, q, hA0, hV, rfl, hfz, hnd⟩ := hW
  have hA : DataW.TrodAll enc Tryz.prog W 0 (fun _ => true) true Tryz.f6.params.toList args.toList ds p := hA0
  rw [Tryz.params6] at hA hval
  obtain ⟨v0, vs0, d0, ds0, p0, q0, hargs, rfl, rfl, h0, r0⟩ := trodAll_cons hA
  obtain ⟨rfl, rfl, rfl⟩ := trodAll_nil r0
  obtain rfl : args = #[v0] := by cases args; simp_all
  obtain ⟨rfl, rfl⟩ := trodVars_none hV
  obtain ⟨a0, len0, cap0, rfl⟩ := okWide_slice Tryz.underlying22 (hval 0 22 v0 rfl rfl)
  have k0 := h0
  have lt0 : ∀ x ∈ p0, x.block < W.heap.size := by obtain ⟨m, hm⟩ := k0; exact DataW.trod_lt m _ _ _ hm
  obtain ⟨z0, w0⟩ : ∃ zs, IsRow .i64 W a0 len0 cap0 zs := by
    obtain ⟨fuel, hf⟩ := h0
    rcases open_ints Tryz.underlying22 Tryz.underlying3 (by kernel_rfl) hf with ⟨hcs, _⟩ | ⟨x, l, c, zs, hcs, _, hl, hm, hz, _, hcell, hwz⟩
    · simp [Value.cells] at hcs
      obtain ⟨rfl, rfl, rfl⟩ := hcs
      exact ⟨[], .inl ⟨rfl, rfl, rfl, rfl⟩⟩
    · simp [Value.cells] at hcs
      obtain ⟨rfl, rfl, rfl⟩ := hcs
      exact ⟨zs, .inr ⟨_, rfl, hl, hm, by simpa using hz, hcell, hwz⟩⟩
  clear hA0
  refine (setsTell_walk a0 len0 cap0 1000 W hcons (str_of_row w0 (1000 + 22 + 42 + 42) (by decide))).mono fun e W' ⟨he, bel⟩ => ?_
  subst he
  exact ⟨_, rfl, _, _, _, [], _, [], hW', trodAll_mk1 (shut_bool Tryz.underlying4 _), (trodAll_cons_mk (Below.trod laidOut (by kernel_rfl) (of_decide_eq_true (by kernel_rfl)) k0 bel lt0) trodAll_mk0), rfl, bel.frame _, fun h => by cases h⟩

theorem setsTell_said : Rows.SetsTellSaid :=
  OpenClaim.holds_of_wide 6 Tryz.f6 rfl rfl rfl rfl rfl rfl rfl ⟨rfl, rfl, rfl, rfl, rfl⟩ rfl rfl rfl rfl rfl (by kernel_rfl) Tryz.func6 (by kernel_rfl)
    (of_decide_eq_true (by kernel_rfl)) (by unfold Func.isWrapper; first | (rw [if_pos (by decide +kernel)]; kernel_rfl) | (rw [if_neg (by decide +kernel)]; exact ⟨rfl, rfl⟩))
    (fun os started H enc _ => setsTell_lifted os started H enc)

/-- The statement. -/
theorem setsTell_holds : Rows.SetsTellCardSaid :=
  Claim7.holds_tied_plain_at .later [] [.data, .data, .data] true _ true
    setsTell_said (fun _ h => by cases h) (by kernel_rfl) (fun _ h => by cases h) setsTell_row_tie rfl ⟨rfl, rfl⟩ (by kernel_rfl) rfl
    (fun f fn hf hfn => by
      obtain rfl : f = 6 := Option.some.inj ((show Tryz.prog.funcNamed Tryz.f6.name = some 6 by kernel_rfl).symm.trans hf) |>.symm
      obtain rfl : fn = Tryz.f6 := (Option.some.inj (Tryz.func6.symm.trans hfn)).symm
      exact ⟨by kernel_rfl, fun j t ht => by
        rw [Tryz.params6] at ht
        have hm : t ∈ [22] := by simpa using Array.mem_of_getElem? ht
        have hall : ([22].all fun u => !Tryz.prog.wantsStandIn u) = true := by kernel_rfl
        exact (show Tryz.prog.wantsStandIn t = false by simpa using List.all_eq_true.1 hall t hm)⟩)
    (by kernel_rfl)
#print axioms setsTell_holds
end Go.Proofs.YthjhokicojgpbaaGreatDoor
