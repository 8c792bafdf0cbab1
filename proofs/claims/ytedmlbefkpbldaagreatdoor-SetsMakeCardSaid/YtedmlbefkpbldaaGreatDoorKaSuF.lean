/- Sets: the law of Least, Span, Ranges. -/
import Derived.Test.YtedmlbefkpbldaaGreatDoorKaSuE
namespace Go.Proofs.YtedmlbefkpbldaaGreatDoor
open Go.RowKit
set_option linter.unusedVariables false
set_option linter.unusedSimpArgs false

set_option maxRecDepth 100000 in
set_option maxHeartbeats 4000000 in
theorem setsMake_walk (a : Option Addr) (len cap R : Nat) (w : World) (hT : Tz w) (hs0 : Str (w.alloc (.cells #[.slice a len cap, .int .i64 0] 25)) w.heap.size (R + 59 + 42)) :
    Calls Tryz.prog 4 #[.slice a len cap] w fun e w' => e = .returned (.bool true) ∧ Below w.heap.size w w' := by
  have hT1 : Hid (∀ W, Below w.heap.size w W → Tz W) := Lib.hid fun W h => hT.below h
  clear hT
  go_enter Tryz.func4, Tryz.ntmps4
  go_wp2_with fail
  obtain ⟨w0, hw0⟩ : ∃ w0, w0 = w.alloc (.cells #[.slice a len cap, .int .i64 0] 25) := ⟨_, rfl⟩
  have hz0 : w0.heap.size = w.heap.size + 1 := by rw [hw0]; simp
  have hB0 := Lib.hid (show Below w.heap.size w w0 by rw [hw0]; exact (Below.refl _ _).alloc (Nat.le_refl _) _)
  rw [← hw0] at hs0 ⊢
  clear hw0
  obtain ⟨b, hb⟩ : ∃ b, b = w.heap.size := ⟨_, rfl⟩
  rw [← hb] at hz0 hs0 ⊢
  replace hb := Lib.hid hb
  refine (set_any w0 b (R + 59) hs0).mono ?_
  rintro e w1 ⟨xs, vx, ⟨hx1, hx2⟩, rfl, hox, hs1, hg⟩
  have hX := Lib.hid (show xs.length ≤ 6 ∧ ∀ p ∈ xs, p.U from ⟨hx1, hx2⟩)
  clear hx1 hx2 hs0
  replace hox := hox.mono (show b + 1 ≤ w0.heap.size by omega)
  have nx : vx.ownBlock ≠ some b := fun e => by have := hox.lt b e; omega
  go_wp2_with fail
  refine (range_any 0 6 w1 b (R + 58) (by decide) (by decide) (by decide) hs1).mono ?_
  rintro e w2 ⟨r, ⟨hr1, hr2⟩, rfl, hs2, hg2⟩
  obtain ⟨m, rfl⟩ := Int.eq_ofNat_of_zero_le hr1
  have hm : m ≤ 6 := by omega
  replace hox := hox.gb hg2 (.inr nx)
  replace hg := gb_trans hg hg2
  clear hr1 hr2 hs1 hg2
  go_wp2_with fail
  refine (prefixes_any m w2 b (R + 28) (by omega) (hs2.le (by omega))).mono ?_
  rintro e w3 ⟨ys, vy, ⟨hy1, hy2⟩, rfl, hoy, hs3, hg3⟩
  have hY := Lib.hid (show ys.length ≤ 6 ∧ ∀ p ∈ ys, p.U from ⟨by omega, fun p hp => (hy2 p hp).u⟩)
  clear hy1 hy2 hs2 hm
  have hz2 := hg.size
  have nxy : vx.ownBlock = none ∨ vx.ownBlock ≠ vy.ownBlock := by
    rcases hvo : vx.ownBlock with _ | k
    · exact .inl rfl
    · exact .inr fun e => by have h1 := hox.lt k hvo; have h2 := hoy.lt k e.symm; omega
  replace hoy := hoy.mono (show b + 1 ≤ w2.heap.size by omega)
  have ny : vy.ownBlock ≠ some b := fun e => by have := hoy.lt b e; omega
  replace hox := hox.gb hg3 (.inr nx)
  replace hg := gb_trans hg hg3
  clear hg3 hz2
  go_wp2_with fail
  refine (raw_any w3 b (R + 22) hs3).mono ?_
  rintro e w4 ⟨s, hi, lo, hA, rfl, hs4, hg4⟩
  obtain ⟨p, hp⟩ : ∃ p : Ad, p = ⟨s, hi, lo⟩ := ⟨_, rfl⟩
  have hpU := Lib.hid (show p.U by rw [hp]; exact hA)
  have hpv : adV s hi lo = adA p := by rw [hp]; rfl
  rw [hpv]
  replace hox := hox.gb hg4 (.inr nx)
  replace hoy := hoy.gb hg4 (.inr ny)
  replace hg := gb_trans hg hg4
  clear hg4 hs3 hp hpv hA
  go_wp2_with fail
  refine (raw_any w4 b (R + 16) hs4).mono ?_
  rintro e w5 ⟨s, hi, lo, hA, rfl, hs5, hg5⟩
  obtain ⟨q, hq⟩ : ∃ p : Ad, p = ⟨s, hi, lo⟩ := ⟨_, rfl⟩
  have hqU := Lib.hid (show q.U by rw [hq]; exact hA)
  have hqv : adV s hi lo = adA q := by rw [hq]; rfl
  rw [hqv]
  replace hox := hox.gb hg5 (.inr nx)
  replace hoy := hoy.gb hg5 (.inr ny)
  replace hg := gb_trans hg hg5
  clear hg5 hs4 hq hqv hA
  have S6 := stT_new rowRg (te := 49) w5 w5.heap.size rfl [.bool false, .int .u64 0, .int .u64 0, .bool false, .int .u64 0, .int .u64 0] (rgC (p, q)) rfl rfl (rgC_one (p, q))
  go_upto_region 3 with fail
  have h6 := Blk.new w5 (rgC (p, q)) 49
  have nx6 : vx.ownBlock ≠ some w5.heap.size := fun e => by have := hox.lt _ e; omega
  have ny6 : vy.ownBlock ≠ some w5.heap.size := fun e => by have := hoy.lt _ e; omega
  have hb6 : b < w5.heap.size := hs5.lt
  have hp6 : w0.heap.size ≤ w5.heap.size := hg.size
  replace hox := hox.alloc' (.cells (rgC (p, q)).toArray 49)
  replace hoy := hoy.alloc' (.cells (rgC (p, q)).toArray 49)
  replace hs5 := hs5.alloc (.cells (rgC (p, q)).toArray 49)
  replace hg := gb_alloc hg (.cells (rgC (p, q)).toArray 49)
  clear S6
  generalize World.alloc w5 (.cells (rgC (p, q)).toArray 49) = w6 at *
  generalize w5.heap.size = p6 at *

  go_cut [41] (fun s41 wx => ∃ t, s41 = .bool t ∧ OwnE ePf 52 (b + 1) wx vx xs ∧ OwnE ePf 52 (b + 1) wx vy ys ∧ Blk wx p6 (rgC (p, q)) 49 ∧ Str wx b (R + 15) ∧ w0.grownBy wx (some b))
  case first => as_aux_lemma =>
    go_wp2_with fail
    refine (flip_any 2 w6 b (R + 15) (by decide) (by decide) hs5).mono ?_
    rintro e w7 ⟨r, rfl, hs7, hg7⟩
    have h67 := h6.gb hg7 hb6
    replace hox := hox.gb hg7 (.inr nx)
    replace hoy := hoy.gb hg7 (.inr ny)
    replace hg := gb_trans hg hg7
    clear hg7 hs5 h6
    cases r
    · go_wp2_with fail
      go_meet
      exact ⟨_, rfl, hox, hoy, h67, hs7, hg⟩
    · have k1 := h67.ldAt rowAd 0 (adC p) (adC q) rfl rfl
      have k2 := h67.ldAt rowAd 3 (adC q) [] rfl rfl
      go_wp2_with fail
      refine (order_n p q w7 hpU.out hqU.out).mono ?_
      rintro e w8 ⟨rfl, hb8⟩
      replace h67 := h67.below hb8
      replace hox := hox.below hb8
      replace hoy := hoy.below hb8
      replace hs7 := hs7.below hb8
      replace hg := gb_below hg hb8
      clear hb8 k1 k2
      go_wp2_with fail
      go_meet
      exact ⟨_, rfl, hox, hoy, h67, hs7, hg⟩
  case rest =>
  clear hox hoy h6 hs5 hg
  obtain ⟨t, rfl, hox, hoy, h6, hs5, hg⟩ := hcut

  go_upto_if 41 with fail
  go_cut [46] (fun _ wx => ∃ r : Ad × Ad, Hid (r.1.U ∧ r.2.U) ∧ OwnE ePf 52 (b + 1) wx vx xs ∧ OwnE ePf 52 (b + 1) wx vy ys ∧ Blk wx p6 (rgC r) 49 ∧ Str wx b (R + 15) ∧ w0.grownBy wx (some b))
  case first => as_aux_lemma =>
    cases t
    · go_wp2_with fail
      go_meet
      exact ⟨(p, q), Lib.hid ⟨hpU.out, hqU.out⟩, hox, hoy, h6, hs5, hg⟩
    · have k1 := h6.ldAt rowAd 0 (adC p) (adC q) rfl rfl
      have k2 := h6.ldAt rowAd 3 (adC q) [] rfl rfl
      have S1 := stT_mid rowAd h6 0 (cs := adC q) (by simp [rgC]) rfl (adC_one q)
      have h6' := blk_cells (adC q) 0 wc _ h6
      have S2 := stT_mid rowAd h6' 3 (cs := adC p) (by exact Nat.le_refl _) rfl (adC_one p)
      have h6'' := blk_cells (adC p) 3 _ _ h6'
      rw [rg_swap] at h6''
      have g1 := gb_cells (g := p6) (adC q) 0 wc
      have g2 := gb_cells (g := p6) (adC p) 3 (wc.setCells p6 0 (adC q))
      have f1 := (hox.gb g1 (.inr nx6)).gb g2 (.inr nx6)
      have f2 := (hoy.gb g1 (.inr ny6)).gb g2 (.inr ny6)
      have f3 := Str.setC hb6 (adC p) 3 _ (Str.setC hb6 (adC q) 0 _ hs5)
      have f4 := gb_setC hp6 (adC p) 3 _ (gb_setC hp6 (adC q) 0 _ hg)
      clear g1 g2 hox hoy hs5 hg h6 h6'
      go_wp2_with fail
      go_meet
      exact ⟨(q, p), Lib.hid ⟨hqU.out, hpU.out⟩, f1, f2, h6'', f3, f4⟩
  case rest =>
  clear hox hoy h6 hs5 hg hpU hqU
  obtain ⟨r, hrU, hox, hoy, h6, hs5, hg⟩ := hcut

  go_wp2_with fail
  refine (flip_any 10 wc b (R + 14) (by decide) (by decide) hs5).mono ?_
  rintro e w8 ⟨t, rfl, hs8, hg8⟩
  replace h6 := h6.gb hg8 hb6
  replace hox := hox.gb hg8 (.inr nx)
  replace hoy := hoy.gb hg8 (.inr ny)
  replace hg := gb_trans hg hg8
  clear hg8 hs5
  go_upto_if 49 with fail
  go_cut [5] (fun v wx => ∃ ys : List Pf, Hid (ys.length ≤ 7 ∧ ∀ p ∈ ys, p.U) ∧ OwnE ePf 52 (b + 1) wx v ys ∧ OwnE ePf 52 (b + 1) wx vx xs ∧ Blk wx p6 (rgC r) 49 ∧ w0.grownBy wx (some b))
  case first => as_aux_lemma =>
    cases t
    · go_wp2_with fail
      go_meet
      exact ⟨ys, Lib.hid ⟨by have := hY.out.1; omega, hY.out.2⟩, hoy, hox, h6, hg⟩
    · go_wp2_with fail
      refine (prefix_any w8 b R hs8).mono ?_
      rintro e w9 ⟨s, hi, lo, n, hA, rfl, hs9, hg9⟩
      have hpU := Lib.hid (raw_pf hA)
      obtain ⟨p, hp⟩ : ∃ p : Pf, p = (⟨s, hi, lo⟩, n) := ⟨_, rfl⟩
      rw [← hp] at hpU
      have hpv : (Value.agg #[.bool s, .int .u64 hi, .int .u64 lo, .int .i64 n]) = pfA p := by rw [hp]; rfl
      rw [hpv]
      replace h6 := h6.gb hg9 hb6
      replace hox := hox.gb hg9 (.inr nx)
      replace hoy := hoy.gb hg9 (.inr ny)
      replace hg := gb_trans hg hg9
      clear hg9 hs8 hs9 hp hpv hA
      go_wp2_with (at_builtin; refine wpList_app tyePf rfl _ _ rfl (b + 1) _ _ [p] rfl (hoy.alloc' _) ⟨_, 0, none⟩ 1 1 rfl rfl ?c1 ?c2 ?c3 ?_)
      case c1 => exact cell_row_at _ _ _ _ rfl
      case c2 => have := hY.out.1; simp only [List.length_singleton]; omega
      case c3 => have := hg.size; simp; omega
      intro v3 x3 hown3 hg4 _
      have hlt3 := fun k h => (hoy.lt k h).1
      replace h6 := (h6.alloc _).gbo hg4 ny6
      replace hox := (hox.alloc' _).gb hg4 nxy
      replace hg := gb_own (gb_alloc hg _) hg4 (fun k h => by have := hlt3 k h; omega)
      have hI2 := Lib.hid (show (ys ++ [p]).length ≤ 7 ∧ ∀ x ∈ ys ++ [p], x.U from ⟨by rw [List.length_append]; have := hY.out.1; simp; omega, fun x hx => by
        rcases List.mem_append.1 hx with hx | hx
        · exact hY.out.2 x hx
        · rw [List.mem_singleton.1 hx]; exact hpU.out⟩)
      clear hg4 hlt3 hoy
      go_wp2_with fail
      go_meet
      exact ⟨ys ++ [p], hI2, hown3, hox, h6, hg⟩
  case rest =>
  clear hox hoy h6 hs8 hg hY
  obtain ⟨ys, hY, hoy, hox, h6, hg⟩ := hcut

  have hB := Lib.hid (show Below w.heap.size w wc from hB0.out.trans (gb_toBelow hg (Nat.le_of_eq hb.out.symm) (by omega)))
  obtain ⟨Ay, cy, rfl, hSy⟩ := hoy.sl
  obtain ⟨Ax, cx, hvx, hSx⟩ := hox.sl
  clear hoy hox hg nx nxy nx6 ny ny6
  subst hvx
  obtain ⟨nx, hnx⟩ : ∃ n, n = xs.length := ⟨_, rfl⟩
  obtain ⟨ny, hny⟩ : ∃ n, n = ys.length := ⟨_, rfl⟩
  rw [← hnx] at hSx ⊢
  rw [← hny] at hSy ⊢
  have hnx6 : nx ≤ 6 := by rw [hnx]; exact hX.out.1
  have hny7 : ny ≤ 7 := by rw [hny]; exact hY.out.1
  replace hnx := Lib.hid hnx
  replace hny := Lib.hid hny
  have HL := Lib.hid (least_any Ay ny cy ys wc hSy (by omega) hY.out.2 (hT1.out _ hB.out))
  obtain ⟨E1, hE1⟩ : ∃ E, E = firstE ys := ⟨_, rfl⟩
  obtain ⟨E2, hE2⟩ : ∃ E, E = spanE r := ⟨_, rfl⟩
  obtain ⟨E3, hE3⟩ : ∃ E, E = setF xs := ⟨_, rfl⟩
  rw [← hE1] at HL
  replace hE1 := Lib.hid hE1
  replace hE2 := Lib.hid hE2
  replace hE3 := Lib.hid hE3
  replace hSx := Lib.hid hSx
  replace hSy := Lib.hid hSy
  clear hz0 hb6 hp6 hb hB0
  go_wp2_with fail
  refine HL.out.mono ?_
  rintro e w9 ⟨va, qa, rfl, ha, ha1, ha2, hb9⟩
  obtain ⟨Aa, ca, rfl, hSa⟩ := ha.sl
  replace hSx := Lib.hid (hSx.out.below hb9)
  replace hSy := Lib.hid (hSy.out.below hb9)
  replace hSa := Lib.hid hSa
  replace h6 := h6.below hb9
  replace hB := Lib.hid (hB.out.trans (hb9.mono hB.out.size))
  replace ha1 := Lib.hid ha1
  have ha0 := Lib.hid (show E1 ≠ 0 → qa.length = 0 from fun h => by rw [ha2 h]; rfl)
  generalize hla : qa.length = La at *
  replace hla := Lib.hid hla
  clear HL ha ha2 hb9
  have HL := Lib.hid (span_any r w9 hrU.out.1 hrU.out.2 (hT1.out _ hB.out))
  rw [← hE2.out] at HL
  have k6 := h6.ld rowRg rfl
  go_wp2_with fail
  refine HL.out.mono ?_
  rintro e w10 ⟨vb, qb, rfl, ha, hb1, ha2, hb9⟩
  obtain ⟨Ab, cb, rfl, hSb⟩ := ha.sl
  replace hSx := Lib.hid (hSx.out.below hb9)
  replace hSy := Lib.hid (hSy.out.below hb9)
  replace hSa := Lib.hid (hSa.out.below hb9)
  replace hSb := Lib.hid hSb
  replace h6 := h6.below hb9
  replace hB := Lib.hid (hB.out.trans (hb9.mono hB.out.size))
  replace hb1 := Lib.hid hb1
  have hb0 := Lib.hid (show E2 ≠ 0 → qb.length = 0 from fun h => by rw [ha2 h]; rfl)
  generalize hlb : qb.length = Lb at *
  replace hlb := Lib.hid hlb
  clear HL ha ha2 hb9 k6
  have HL := Lib.hid (ranges_any Ax nx cx xs w10 hSx.out (by omega) hX.out.2)
  rw [← hE3.out] at HL
  go_wp2_with fail
  refine HL.out.mono ?_
  rintro e w11 ⟨Ac, cc, qc, rfl, hSc, hc1, hc2, hc3, hb9⟩
  replace hSx := Lib.hid (hSx.out.below hb9)
  replace hSy := Lib.hid (hSy.out.below hb9)
  replace hSa := Lib.hid (hSa.out.below hb9)
  replace hSb := Lib.hid (hSb.out.below hb9)
  replace hSc := Lib.hid hSc
  replace h6 := h6.below hb9
  replace hB := Lib.hid (hB.out.trans (hb9.mono hB.out.size))
  replace hc1 := Lib.hid hc1
  have hc0 := Lib.hid (show E3 ≠ 0 → qc.length = 0 from fun h => by rw [hc2 h]; rfl)
  generalize hlc : qc.length = Lc at *
  replace hlc := Lib.hid hlc
  clear HL hc2 hc3 hb9

  go_wp2_with fail
  go_loopw [13, 72] (fun o i wr => ∃ (k : Nat) (z : Int), k ≤ ny ∧ i = .int .i64 k ∧ o = .int .i64 z ∧ Hid (z = firstE (ys.take k)) ∧ Below w11.heap.size w11 wr) (fun _ i _ => ny - (intOf i).toNat)
  case atStart => exact ⟨0, 0, by omega, rfl, rfl, Lib.hid rfl, Below.refl _ _⟩
  case round =>
    obtain ⟨k, z, hk, rfl, rfl, hI, hbw⟩ := hrel
    by_cases hlt : k < ny
    · skip
      obtain ⟨p, hp⟩ : ∃ p, ys[k]? = some p := ⟨ys[k]'(by have := hny.out; omega), List.getElem?_eq_getElem _⟩
      obtain ⟨g0, off, rfl, _, _⟩ := hSy.out.at' hlt
      have hld := SlE.ld rowPf (hSy.out.below hbw) hp
      replace hld : (ldT 52 (.pointer (some ⟨g0, off + k * 4, none⟩))).run Tryz.prog wr = .ok (.value (pfA p)) wr := hld
      have hpU := hY.out.2 p (List.mem_of_getElem? hp)
      have hlt' : (k : Int) < ny := by omega
      have hsw := hbw.size
      have S1 := stT_new rowPf (te := 52) wr wr.heap.size rfl [.bool false, .int .u64 0, .int .u64 0, .int .i64 0] (pfC p) rfl rfl (pfC_one p)
      have hC := Blk.new wr (pfC p) 52
      replace hbw := hbw.alloc hsw (.cells (pfC p).toArray 52)
      have HF0 := fun w' => Lib.hid (prefixFault_any p.1.s p.1.hi p.1.lo p.2 w' hpU.1.1.1 hpU.1.1.2 hpU.1.2.1 hpU.1.2.2)
      have k1 := hC.ld rowPf rfl
      obtain ⟨E, hE⟩ : ∃ E, E = pfE p := ⟨_, rfl⟩
      have HF : ∀ w', Hid (Calls Tryz.prog 27 #[pfA p] w' (GivesV (.int .i64 E) w')) := fun w' => by rw [hE]; exact HF0 w'
      have hst := firstE_take hp
      rw [← hE, ← hI.out] at hst
      replace hst := Lib.hid hst
      replace hp := Lib.hid hp
      replace hE := Lib.hid hE
      clear HF0 hI
      go_wp2_with fail
      refine (HF _).out.mono ?_
      rintro e w2 ⟨rfl, hb2⟩
      replace hbw := hbw.trans (hb2.mono hbw.size)
      clear hb2 k1 S1 HF hld hC
      have hN := Blk.new w2 ([z, E].map (Value.int .i64)) 30
      have hbw2 := hbw.alloc hbw.size (.cells ([z, E].map (Value.int .i64)).toArray 30)
      have HE := Lib.hid (errs_blk [z, E] _ 2 _ _ hN (by simp))
      clear hN
      go_wp2_with fail
      refine HE.out.mono ?_
      rintro e w3 ⟨rfl, rfl⟩
      obtain ⟨z', hz'⟩ : ∃ z', z' = firstZ [z, E] := ⟨_, rfl⟩
      rw [← hz']
      have hI2 := Lib.hid (hz'.trans hst.out.symm)
      clear hz' HE hst
      go_wp2_with fail
      go_roundw
      case rel => exact ⟨k + 1, z', by omega, by go_num, rfl, hI2, hbw2⟩
      case measure => simp [intOf]; omega
    · have hzE := Lib.hid (show z = E1 by
        have h := hI.out
        rw [List.take_of_length_le (by have := hny.out; omega)] at h
        rw [h, hE1.out])
      have hkn : k = ny := by omega
      subst hkn
      have h1 := h6.below hbw
      clear hI hlt hk

      go_upto_region 16 with fail
      go_cut [16] (fun v wx => v = .int .i64 E2 ∧ Below w11.heap.size w11 wx)
      case first => as_aux_lemma =>
        have HA1 := fun w' => Lib.hid (addrFault_n r.1 w' hrU.out.1)
        have HA2 := fun w' => Lib.hid (addrFault_n r.2 w' hrU.out.2)
        have HC := fun w' => Lib.hid (order_n r.1 r.2 w' hrU.out.1 hrU.out.2)
        have hcl := Lib.hid (cmpN_gt r.1.n r.2.n)
        have h4 := Lib.hid (fun b c => spanE_four r b c)
        rw [← hE2.out] at h4
        obtain ⟨A1, hA1⟩ : ∃ E, E = adEr r.1 := ⟨_, rfl⟩
        obtain ⟨A2, hA2⟩ : ∃ E, E = adEr r.2 := ⟨_, rfl⟩
        rw [← hA1] at HA1 h4
        rw [← hA2] at HA2 h4
        obtain ⟨c, hc⟩ : ∃ c, c = cmpN r.1.n r.2.n := ⟨_, rfl⟩
        rw [← hc] at HC hcl
        clear hA1 hA2 hc hrU hE1 hE2 hE3
        refine wx_begin (none) [] (by kernel_rfl) (fun u0 hb0' hz0' => ?_)
        replace h1 := h1.below hb0'
        replace hbw := hbw.trans (hb0'.mono hbw.size)
        clear hb0' hz0'
        refine wx_pure (i := 0) (d := some 82) (v := ?_) (by simp only [List.getElem?_toArray, List.getElem?_cons_succ, List.getElem?_cons_zero] <;> rfl) (by rfl) (by kernel_rfl) (by kernel_rfl) (by kernel_rfl) (fun _ _ _ h => h) (by rfl) ?_ ?_
        rotate_left
        · ((intro u); go_simp; try with_reducible rfl)
        try simp only [Act.put, List.setIfInBounds_toArray, List.set_cons_zero, List.set_cons_succ]
        refine wx_take (i := 1) (d := some 83) (v := ?_) (by simp only [List.getElem?_toArray, List.getElem?_cons_succ, List.getElem?_cons_zero] <;> rfl) (by rfl) (by kernel_rfl) (by kernel_rfl) (by kernel_rfl) (fun _ _ _ h => h) (by rfl) (by kernel_rfl) ?_ ?_
        rotate_left
        · ((intro u hu); have k1 := (h1.gn hu).ldAt rowAd 0 (adC r.1) (adC r.2) rfl rfl; have k2 := (h1.gn hu).ldAt rowAd 3 (adC r.2) [] rfl rfl; have q0 := (h1.gn hu).cell (i := 0) (v := .bool r.1.s) rfl; have q3 := (h1.gn hu).cell (i := 3) (v := .bool r.2.s) rfl; go_simp; try with_reducible rfl)
        try simp only [Act.put, List.setIfInBounds_toArray, List.set_cons_zero, List.set_cons_succ]
        refine wx_pure (i := 3) (d := some 85) (v := ?_) (by simp only [List.getElem?_toArray, List.getElem?_cons_succ, List.getElem?_cons_zero] <;> rfl) (by rfl) (by kernel_rfl) (by kernel_rfl) (by kernel_rfl) (fun _ _ _ h => h) (by rfl) ?_ ?_
        rotate_left
        · ((intro u); go_simp; try with_reducible rfl)
        try simp only [Act.put, List.setIfInBounds_toArray, List.set_cons_zero, List.set_cons_succ]
        refine wx_take (i := 4) (d := some 86) (v := ?_) (by simp only [List.getElem?_toArray, List.getElem?_cons_succ, List.getElem?_cons_zero] <;> rfl) (by rfl) (by kernel_rfl) (by kernel_rfl) (by kernel_rfl) (fun _ _ _ h => h) (by rfl) (by kernel_rfl) ?_ ?_
        rotate_left
        · ((intro u hu); have k1 := (h1.gn hu).ldAt rowAd 0 (adC r.1) (adC r.2) rfl rfl; have k2 := (h1.gn hu).ldAt rowAd 3 (adC r.2) [] rfl rfl; have q0 := (h1.gn hu).cell (i := 0) (v := .bool r.1.s) rfl; have q3 := (h1.gn hu).cell (i := 3) (v := .bool r.2.s) rfl; go_simp; try with_reducible rfl)
        try simp only [Act.put, List.setIfInBounds_toArray, List.set_cons_zero, List.set_cons_succ]
        refine wx_pure (i := 6) (d := some 88) (v := ?_) (by simp only [List.getElem?_toArray, List.getElem?_cons_succ, List.getElem?_cons_zero] <;> rfl) (by rfl) (by kernel_rfl) (by kernel_rfl) (by kernel_rfl) (fun _ _ _ h => h) (by rfl) ?_ ?_
        rotate_left
        · ((intro u); go_simp; try with_reducible rfl)
        try simp only [Act.put, List.setIfInBounds_toArray, List.set_cons_zero, List.set_cons_succ]
        refine wx_pure (i := 7) (d := some 89) (v := ?_) (by simp only [List.getElem?_toArray, List.getElem?_cons_succ, List.getElem?_cons_zero] <;> rfl) (by rfl) (by kernel_rfl) (by kernel_rfl) (by kernel_rfl) (fun _ _ _ h => h) (by rfl) ?_ ?_
        rotate_left
        · ((intro u); go_simp; try with_reducible rfl)
        try simp only [Act.put, List.setIfInBounds_toArray, List.set_cons_zero, List.set_cons_succ]
        refine wx_take (i := 8) (d := some 90) (v := ?_) (by simp only [List.getElem?_toArray, List.getElem?_cons_succ, List.getElem?_cons_zero] <;> rfl) (by rfl) (by kernel_rfl) (by kernel_rfl) (by kernel_rfl) (fun _ _ _ h => h) (by rfl) (by kernel_rfl) ?_ ?_
        rotate_left
        · ((intro u hu); have k1 := (h1.gn hu).ldAt rowAd 0 (adC r.1) (adC r.2) rfl rfl; have k2 := (h1.gn hu).ldAt rowAd 3 (adC r.2) [] rfl rfl; have q0 := (h1.gn hu).cell (i := 0) (v := .bool r.1.s) rfl; have q3 := (h1.gn hu).cell (i := 3) (v := .bool r.2.s) rfl; go_simp; try with_reducible rfl)
        try simp only [Act.put, List.setIfInBounds_toArray, List.set_cons_zero, List.set_cons_succ]
        refine wx_pure (i := 9) (d := some 91) (v := ?_) (by simp only [List.getElem?_toArray, List.getElem?_cons_succ, List.getElem?_cons_zero] <;> rfl) (by rfl) (by kernel_rfl) (by kernel_rfl) (by kernel_rfl) (fun _ _ _ h => h) (by rfl) ?_ ?_
        rotate_left
        · ((intro u); go_simp; try with_reducible rfl)
        try simp only [Act.put, List.setIfInBounds_toArray, List.set_cons_zero, List.set_cons_succ]
        refine wx_pure (i := 10) (d := some 92) (v := ?_) (by simp only [List.getElem?_toArray, List.getElem?_cons_succ, List.getElem?_cons_zero] <;> rfl) (by rfl) (by kernel_rfl) (by kernel_rfl) (by kernel_rfl) (fun _ _ _ h => h) (by rfl) ?_ ?_
        rotate_left
        · ((intro u); go_simp; try with_reducible rfl)
        try simp only [Act.put, List.setIfInBounds_toArray, List.set_cons_zero, List.set_cons_succ]
        refine wx_take (i := 11) (d := some 93) (v := ?_) (by simp only [List.getElem?_toArray, List.getElem?_cons_succ, List.getElem?_cons_zero] <;> rfl) (by rfl) (by kernel_rfl) (by kernel_rfl) (by kernel_rfl) (fun _ _ _ h => h) (by rfl) (by kernel_rfl) ?_ ?_
        rotate_left
        · ((intro u hu); have k1 := (h1.gn hu).ldAt rowAd 0 (adC r.1) (adC r.2) rfl rfl; have k2 := (h1.gn hu).ldAt rowAd 3 (adC r.2) [] rfl rfl; have q0 := (h1.gn hu).cell (i := 0) (v := .bool r.1.s) rfl; have q3 := (h1.gn hu).cell (i := 3) (v := .bool r.2.s) rfl; go_simp; try with_reducible rfl)
        try simp only [Act.put, List.setIfInBounds_toArray, List.set_cons_zero, List.set_cons_succ]
        refine wx_pure (i := 12) (d := some 94) (v := ?_) (by simp only [List.getElem?_toArray, List.getElem?_cons_succ, List.getElem?_cons_zero] <;> rfl) (by rfl) (by kernel_rfl) (by kernel_rfl) (by kernel_rfl) (fun _ _ _ h => h) (by rfl) ?_ ?_
        rotate_left
        · ((intro u); go_simp; try with_reducible rfl)
        try simp only [Act.put, List.setIfInBounds_toArray, List.set_cons_zero, List.set_cons_succ]
        refine wx_pure (i := 14) (d := some 96) (v := ?_) (by simp only [List.getElem?_toArray, List.getElem?_cons_succ, List.getElem?_cons_zero] <;> rfl) (by rfl) (by kernel_rfl) (by kernel_rfl) (by kernel_rfl) (fun _ _ _ h => h) (by rfl) ?_ ?_
        rotate_left
        · ((intro u); go_simp; try with_reducible rfl)
        try simp only [Act.put, List.setIfInBounds_toArray, List.set_cons_zero, List.set_cons_succ]
        refine wx_take (i := 15) (d := some 97) (v := ?_) (by simp only [List.getElem?_toArray, List.getElem?_cons_succ, List.getElem?_cons_zero] <;> rfl) (by rfl) (by kernel_rfl) (by kernel_rfl) (by kernel_rfl) (fun _ _ _ h => h) (by rfl) (by kernel_rfl) ?_ ?_
        rotate_left
        · ((intro u hu); have k1 := (h1.gn hu).ldAt rowAd 0 (adC r.1) (adC r.2) rfl rfl; have k2 := (h1.gn hu).ldAt rowAd 3 (adC r.2) [] rfl rfl; have q0 := (h1.gn hu).cell (i := 0) (v := .bool r.1.s) rfl; have q3 := (h1.gn hu).cell (i := 3) (v := .bool r.2.s) rfl; go_simp; try with_reducible rfl)
        try simp only [Act.put, List.setIfInBounds_toArray, List.set_cons_zero, List.set_cons_succ]
        refine wx_pure (i := 16) (d := some 98) (v := ?_) (by simp only [List.getElem?_toArray, List.getElem?_cons_succ, List.getElem?_cons_zero] <;> rfl) (by rfl) (by kernel_rfl) (by kernel_rfl) (by kernel_rfl) (fun _ _ _ h => h) (by rfl) ?_ ?_
        rotate_left
        · ((intro u); go_simp; try with_reducible rfl)
        try simp only [Act.put, List.setIfInBounds_toArray, List.set_cons_zero, List.set_cons_succ]
        refine wx_take (i := 17) (d := some 99) (v := ?_) (by simp only [List.getElem?_toArray, List.getElem?_cons_succ, List.getElem?_cons_zero] <;> rfl) (by rfl) (by kernel_rfl) (by kernel_rfl) (by kernel_rfl) (fun _ _ _ h => h) (by rfl) (by kernel_rfl) ?_ ?_
        rotate_left
        · ((intro u hu); have k1 := (h1.gn hu).ldAt rowAd 0 (adC r.1) (adC r.2) rfl rfl; have k2 := (h1.gn hu).ldAt rowAd 3 (adC r.2) [] rfl rfl; have q0 := (h1.gn hu).cell (i := 0) (v := .bool r.1.s) rfl; have q3 := (h1.gn hu).cell (i := 3) (v := .bool r.2.s) rfl; go_simp; try with_reducible rfl)
        try simp only [Act.put, List.setIfInBounds_toArray, List.set_cons_zero, List.set_cons_succ]
        refine wx_one (i := 2) (by simp only [List.getElem?_toArray, List.getElem?_cons_succ, List.getElem?_cons_zero] <;> rfl) (by kernel_rfl) (by rfl) (fun K hK => ?_)
        go_simp
        refine (HA1 _).out.mono ?_
        rintro e u1 ⟨rfl, hv1⟩
        refine hK _ _ (gbB hv1) ?_
        replace h1 := h1.below hv1
        replace hbw := hbw.trans (hv1.mono hbw.size)
        clear hK K hv1
        try simp only [Act.put, List.setIfInBounds_toArray, List.set_cons_zero, List.set_cons_succ]
        refine wx_one (i := 5) (by simp only [List.getElem?_toArray, List.getElem?_cons_succ, List.getElem?_cons_zero] <;> rfl) (by kernel_rfl) (by rfl) (fun K hK => ?_)
        go_simp
        refine (HA2 _).out.mono ?_
        rintro e u2 ⟨rfl, hv1⟩
        refine hK _ _ (gbB hv1) ?_
        replace h1 := h1.below hv1
        replace hbw := hbw.trans (hv1.mono hbw.size)
        clear hK K hv1
        try simp only [Act.put, List.setIfInBounds_toArray, List.set_cons_zero, List.set_cons_succ]
        refine wx_one (i := 13) (by simp only [List.getElem?_toArray, List.getElem?_cons_succ, List.getElem?_cons_zero] <;> rfl) (by kernel_rfl) (by rfl) (fun K hK => ?_)
        go_simp
        refine (when_any _ 10 _).mono ?_
        rintro e u9 ⟨rfl, rfl⟩
        refine hK _ _ (gb_refl _ _) ?_
        clear hK K
        try simp only [Act.put, List.setIfInBounds_toArray, List.set_cons_zero, List.set_cons_succ]
        refine wx_one (i := 18) (by simp only [List.getElem?_toArray, List.getElem?_cons_succ, List.getElem?_cons_zero] <;> rfl) (by kernel_rfl) (by rfl) (fun K hK => ?_)
        go_simp
        refine (HC _).out.mono ?_
        rintro e u3 ⟨rfl, hv1⟩
        refine hK _ _ (gbB hv1) ?_
        replace h1 := h1.below hv1
        replace hbw := hbw.trans (hv1.mono hbw.size)
        clear hK K hv1
        try simp only [Act.put, List.setIfInBounds_toArray, List.set_cons_zero, List.set_cons_succ]
        refine wx_pure (i := 19) (d := some 101) (v := ?_) (by simp only [List.getElem?_toArray, List.getElem?_cons_succ, List.getElem?_cons_zero] <;> rfl) (by rfl) (by kernel_rfl) (by kernel_rfl) (by kernel_rfl) (fun _ _ _ h => h) (by rfl) ?_ ?_
        rotate_left
        · ((intro u); go_simp; try with_reducible rfl)
        try simp only [Act.put, List.setIfInBounds_toArray, List.set_cons_zero, List.set_cons_succ]
        refine wx_one (i := 20) (by simp only [List.getElem?_toArray, List.getElem?_cons_succ, List.getElem?_cons_zero] <;> rfl) (by kernel_rfl) (by rfl) (fun K hK => ?_)
        go_simp
        refine (when_any _ 7 _).mono ?_
        rintro e u9 ⟨rfl, rfl⟩
        refine hK _ _ (gb_refl _ _) ?_
        clear hK K
        try simp only [Act.put, List.setIfInBounds_toArray, List.set_cons_zero, List.set_cons_succ]
        refine wx_one (i := 21) (by simp only [List.getElem?_toArray, List.getElem?_cons_succ, List.getElem?_cons_zero] <;> rfl) (by kernel_rfl) (by rfl) (fun K hK => ?_)
        go_simp
        refine hK _ _ (World.grownBy_alloc _ _ none) ?_
        refine wx_new (cs := [A1, A2, whenZ (_) 10, whenZ (_) 7].map (Value.int .i64)) (t := 30) (fun u3 hv1 hL3 hz3 => ?_)
        replace h1 := h1.below hv1
        replace hbw := hbw.trans (hv1.mono hbw.size)
        clear hK K hv1 hz3
        try simp only [Act.put, List.setIfInBounds_toArray, List.set_cons_zero, List.set_cons_succ]
        refine wx_one (i := 22) (by simp only [List.getElem?_toArray, List.getElem?_cons_succ, List.getElem?_cons_zero] <;> rfl) (by kernel_rfl) (by rfl) (fun K hK => ?_)
        go_simp
        refine (errs_blk [A1, A2, whenZ (_) 10, whenZ (_) 7] _ _ _ _ hL3 (by simp)).mono ?_
        rintro e u4 ⟨rfl, rfl⟩
        refine hK _ _ (gb_refl _ _) ?_
        clear hK K hL3
        try simp only [Act.put, List.setIfInBounds_toArray, List.set_cons_zero, List.set_cons_succ]
        refine wx_pure (i := 23) (d := some 16) (v := ?_) (by simp only [List.getElem?_toArray, List.getElem?_cons_succ, List.getElem?_cons_zero] <;> rfl) (by rfl) (by kernel_rfl) (by kernel_rfl) (by kernel_rfl) (fun _ _ _ h => h) (by rfl) ?_ ?_
        rotate_left
        · ((intro u); go_simp; try with_reducible rfl)
        try simp only [Act.put, List.setIfInBounds_toArray, List.set_cons_zero, List.set_cons_succ]
        refine wx_done (by kernel_rfl) ?_ _
        skip
        go_wp2_with fail
        go_meet
        refine ⟨congrArg (Value.int .i64) (h4.out _ _ ?hb ?hc), hbw⟩
        case hb => cases r.1.s <;> cases r.2.s <;> decide
        case hc => rw [hcl.out]; exact decide_eq_true_iff
      case rest =>
      clear hbw h1
      obtain ⟨rfl, hbw⟩ := hcut

      have hzz : z = E1 := hzE.out
      subst hzz
      clear hzE
      have HQ := Lib.hid (setFault_any Ax nx cx xs wc (hSx.out.below hbw) (by omega) hX.out.2)
      rw [← hE3.out] at HQ
      go_wp2_with fail
      refine HQ.out.mono ?_
      rintro e w12 ⟨rfl, hb9⟩
      replace hbw := hbw.trans (hb9.mono hbw.size)
      clear hb9 HQ
      have HQ := Lib.hid (checkSet_any Ax nx cx xs w12 (hSx.out.below hbw) (by omega) hX.out.2)
      rw [← hE3.out] at HQ
      go_wp2_with fail
      refine HQ.out.mono ?_
      rintro e w13 ⟨rfl, hb9⟩
      replace hbw := hbw.trans (hb9.mono hbw.size)
      clear hb9 HQ
      have d1 : (z == z) = true := beq_self_eq_true _
      have d2 : (E2 == E2) = true := beq_self_eq_true _
      have d3 : (E3 == E3) = true := beq_self_eq_true _
      go_upto_region 20 with fail

      have HHA := Lib.hid (fun W (hw : Below w11.heap.size w11 W) (h0 : z = 0) => stepA Aa Ay La ca k cy qa ys w11 W hSy.out hSa.out hw (by omega) (ha1.out h0))
      have HHB := Lib.hid (fun W (hw : Below w11.heap.size w11 W) (h0 : E2 = 0) => stepB Ab Lb cb qb r w11 W hSb.out hw (hb1.out h0))
      have HHC := Lib.hid (fun W (hw : Below w11.heap.size w11 W) (h0 : E3 = 0) => stepC Ac Ax Lc cc nx cx qc xs w11 W hSx.out hSc.out hw (by omega) (hc1.out h0))
      clear d1 d2 d3 hT1 hSx hSy hSa hSb hSc ha1 hb1 hc1 hE1 hE2 hE3 hrU hX hY hnx hny hla hlb hlc
      by_cases hz : z = 0
      · have c1 : (z == 0) = true := by simp [hz]
        have hz' := Lib.hid hz
        clear hz
        go_wp2_with fail
        refine (HHA.out _ hbw hz'.out).mono ?_
        rintro e w14 ⟨A', m', c', rfl, hb9, hQ⟩
        replace hbw := hbw.trans (hb9.mono hbw.size)
        have hQ' := Lib.hid hQ
        clear hb9 hQ hz' HHA
        go_wp2_with fail
        refine hQ'.out.mono ?_
        rintro e w15 ⟨rfl, hb9⟩
        replace hbw := hbw.trans (hb9.mono hbw.size)
        clear hb9 hQ'
        by_cases hz : E2 = 0
        · have c2 : (E2 == 0) = true := by simp [hz]
          have hz' := Lib.hid hz
          clear hz
          have k6 := (h6.below hbw).ld rowRg rfl
          go_wp2_with fail
          refine (HHB.out _ hbw hz'.out).mono ?_
          rintro e w14 ⟨A', m', c', rfl, hb9, hQ⟩
          replace hbw := hbw.trans (hb9.mono hbw.size)
          have hQ' := Lib.hid hQ
          clear hb9 hQ hz' HHB k6
          go_wp2_with fail
          refine hQ'.out.mono ?_
          rintro e w15 ⟨rfl, hb9⟩
          replace hbw := hbw.trans (hb9.mono hbw.size)
          clear hb9 hQ'
          by_cases hz : E3 = 0
          · have c3 : (E3 == 0) = true := by simp [hz]
            have hz' := Lib.hid hz
            clear hz
            go_wp2_with fail
            refine (HHC.out _ hbw hz'.out).mono ?_
            rintro e w14 ⟨A', m', c', rfl, hb9, hQ⟩
            replace hbw := hbw.trans (hb9.mono hbw.size)
            have hQ' := Lib.hid hQ
            clear hb9 hQ hz' HHC
            go_wp2_with fail
            refine hQ'.out.mono ?_
            rintro e w15 ⟨rfl, hb9⟩
            replace hbw := hbw.trans (hb9.mono hbw.size)
            clear hb9 hQ'
            go_wp2_with fail
            refine (addressed_any _).mono ?_
            rintro e w20 ⟨rfl, hb9⟩
            replace hbw := hbw.trans (hb9.mono hbw.size)
            clear hb9
            go_wp2_with fail
            go_ret
            exact ⟨rfl, hB.out.trans (hbw.mono hB.out.size)⟩

          · have c3 : (E3 == 0) = false := by simp [hz]
            have l1 : Lc = 0 := hc0.out hz
            subst l1
            clear hz HHC
            go_wp2_with fail
            refine (addressed_any _).mono ?_
            rintro e w20 ⟨rfl, hb9⟩
            replace hbw := hbw.trans (hb9.mono hbw.size)
            clear hb9
            go_wp2_with fail
            go_ret
            exact ⟨rfl, hB.out.trans (hbw.mono hB.out.size)⟩


        · have c2 : (E2 == 0) = false := by simp [hz]
          have l1 : Lb = 0 := hb0.out hz
          subst l1
          clear hz HHB
          by_cases hz : E3 = 0
          · have c3 : (E3 == 0) = true := by simp [hz]
            have hz' := Lib.hid hz
            clear hz
            go_wp2_with fail
            refine (HHC.out _ hbw hz'.out).mono ?_
            rintro e w14 ⟨A', m', c', rfl, hb9, hQ⟩
            replace hbw := hbw.trans (hb9.mono hbw.size)
            have hQ' := Lib.hid hQ
            clear hb9 hQ hz' HHC
            go_wp2_with fail
            refine hQ'.out.mono ?_
            rintro e w15 ⟨rfl, hb9⟩
            replace hbw := hbw.trans (hb9.mono hbw.size)
            clear hb9 hQ'
            go_wp2_with fail
            refine (addressed_any _).mono ?_
            rintro e w20 ⟨rfl, hb9⟩
            replace hbw := hbw.trans (hb9.mono hbw.size)
            clear hb9
            go_wp2_with fail
            go_ret
            exact ⟨rfl, hB.out.trans (hbw.mono hB.out.size)⟩

          · have c3 : (E3 == 0) = false := by simp [hz]
            have l1 : Lc = 0 := hc0.out hz
            subst l1
            clear hz HHC
            go_wp2_with fail
            refine (addressed_any _).mono ?_
            rintro e w20 ⟨rfl, hb9⟩
            replace hbw := hbw.trans (hb9.mono hbw.size)
            clear hb9
            go_wp2_with fail
            go_ret
            exact ⟨rfl, hB.out.trans (hbw.mono hB.out.size)⟩



      · have c1 : (z == 0) = false := by simp [hz]
        have l1 : La = 0 := ha0.out hz
        subst l1
        clear hz HHA
        by_cases hz : E2 = 0
        · have c2 : (E2 == 0) = true := by simp [hz]
          have hz' := Lib.hid hz
          clear hz
          have k6 := (h6.below hbw).ld rowRg rfl
          go_wp2_with fail
          refine (HHB.out _ hbw hz'.out).mono ?_
          rintro e w14 ⟨A', m', c', rfl, hb9, hQ⟩
          replace hbw := hbw.trans (hb9.mono hbw.size)
          have hQ' := Lib.hid hQ
          clear hb9 hQ hz' HHB k6
          go_wp2_with fail
          refine hQ'.out.mono ?_
          rintro e w15 ⟨rfl, hb9⟩
          replace hbw := hbw.trans (hb9.mono hbw.size)
          clear hb9 hQ'
          by_cases hz : E3 = 0
          · have c3 : (E3 == 0) = true := by simp [hz]
            have hz' := Lib.hid hz
            clear hz
            go_wp2_with fail
            refine (HHC.out _ hbw hz'.out).mono ?_
            rintro e w14 ⟨A', m', c', rfl, hb9, hQ⟩
            replace hbw := hbw.trans (hb9.mono hbw.size)
            have hQ' := Lib.hid hQ
            clear hb9 hQ hz' HHC
            go_wp2_with fail
            refine hQ'.out.mono ?_
            rintro e w15 ⟨rfl, hb9⟩
            replace hbw := hbw.trans (hb9.mono hbw.size)
            clear hb9 hQ'
            go_wp2_with fail
            refine (addressed_any _).mono ?_
            rintro e w20 ⟨rfl, hb9⟩
            replace hbw := hbw.trans (hb9.mono hbw.size)
            clear hb9
            go_wp2_with fail
            go_ret
            exact ⟨rfl, hB.out.trans (hbw.mono hB.out.size)⟩

          · have c3 : (E3 == 0) = false := by simp [hz]
            have l1 : Lc = 0 := hc0.out hz
            subst l1
            clear hz HHC
            go_wp2_with fail
            refine (addressed_any _).mono ?_
            rintro e w20 ⟨rfl, hb9⟩
            replace hbw := hbw.trans (hb9.mono hbw.size)
            clear hb9
            go_wp2_with fail
            go_ret
            exact ⟨rfl, hB.out.trans (hbw.mono hB.out.size)⟩


        · have c2 : (E2 == 0) = false := by simp [hz]
          have l1 : Lb = 0 := hb0.out hz
          subst l1
          clear hz HHB
          by_cases hz : E3 = 0
          · have c3 : (E3 == 0) = true := by simp [hz]
            have hz' := Lib.hid hz
            clear hz
            go_wp2_with fail
            refine (HHC.out _ hbw hz'.out).mono ?_
            rintro e w14 ⟨A', m', c', rfl, hb9, hQ⟩
            replace hbw := hbw.trans (hb9.mono hbw.size)
            have hQ' := Lib.hid hQ
            clear hb9 hQ hz' HHC
            go_wp2_with fail
            refine hQ'.out.mono ?_
            rintro e w15 ⟨rfl, hb9⟩
            replace hbw := hbw.trans (hb9.mono hbw.size)
            clear hb9 hQ'
            go_wp2_with fail
            refine (addressed_any _).mono ?_
            rintro e w20 ⟨rfl, hb9⟩
            replace hbw := hbw.trans (hb9.mono hbw.size)
            clear hb9
            go_wp2_with fail
            go_ret
            exact ⟨rfl, hB.out.trans (hbw.mono hB.out.size)⟩

          · have c3 : (E3 == 0) = false := by simp [hz]
            have l1 : Lc = 0 := hc0.out hz
            subst l1
            clear hz HHC
            go_wp2_with fail
            refine (addressed_any _).mono ?_
            rintro e w20 ⟨rfl, hb9⟩
            replace hbw := hbw.trans (hb9.mono hbw.size)
            clear hb9
            go_wp2_with fail
            go_ret
            exact ⟨rfl, hB.out.trans (hbw.mono hB.out.size)⟩
end Go.Proofs.YtedmlbefkpbldaaGreatDoor
