/- Reports that are put together: HideOf. -/
import Derived.Test.YtilgjgdppfnefaaGreatDoorKhThR
namespace Go.Proofs.YtilgjgdppfnefaaGreatDoor
open Go.RowKit
set_option linter.unusedVariables false
set_option linter.unusedSimpArgs false

set_option maxHeartbeats 4000000 in
set_option maxRecDepth 100000 in
theorem hideOf_any (b4 b6 : Int) (hI : InB b4 b6) (A : Option Addr) (n cap : Nat) (ms : List Rp) (w : World) (hS : SlE eRp w A n cap ms) (hn : n ≤ 20) (hG : ∀ x ∈ ms, x.G) :
    Calls Tryz.prog 23 #[.slice A n cap, .int .i64 b4, .int .i64 b6] w (TogP w (ms.map (hidR b4 b6))) := by
  have hp := (Blk.new w [.int .i64 b4] 3).alloc (.cells [.int .i64 b6].toArray 3)
  have hq := Blk.new (w.alloc (.cells [.int .i64 b4].toArray 3)) [.int .i64 b6] 3
  rw [World.size_alloc] at hq
  have hbE : Below w.heap.size w ((w.alloc (.cells [.int .i64 b4].toArray 3)).alloc (.cells [.int .i64 b6].toArray 3)) := ((Below.refl _ _).alloc (Nat.le_refl _) _).alloc (by simp) _
  have hL := Lib.hid hS.1
  replace hS := Lib.hid (hS.below hbE)
  replace hG := Lib.hid hG
  go_enter Tryz.func23, Tryz.ntmps23
  go_upto_region 1 with fail
  obtain ⟨wE, hwE⟩ : ∃ wE, wE = (w.alloc (.cells [.int .i64 b4].toArray 3)).alloc (.cells [.int .i64 b6].toArray 3) := ⟨_, rfl⟩
  have hwB : w.heap.size ≤ wE.heap.size := by rw [hwE]; simp; omega
  rw [← hwE] at hp hq hbE hS
  try rw [← hwE]
  have HH := Lib.hid (fun (a : Ad) (hU : a.U) W (hW : Below wE.heap.size wE W) => hide1Ref_any w.heap.size (w.heap.size + 1) b4 b6 a W (hp.below hW) (hq.below hW) hI hU)
  have hbw := Below.refl wE.heap.size wE
  clear hwE hp hq
  replace hbE := Lib.hid hbE
  go_wp2_with fail
  go_loopw [8, 14] (fun vo vi wr => ∃ (k : Nat) (V : Value), V = vo ∧ k ≤ n ∧ vi = .int .i64 k ∧ OwnE eRp 37 wE.heap.size wr V ((ms.take k).map (hidR b4 b6)) ∧ Below wE.heap.size wE wr) (fun _ vi _ => n - (intOf vi).toNat)
  case atStart => exact ⟨0, _, rfl, Nat.zero_le _, rfl, OwnE.nil _ _, hbw⟩
  case round =>
    clear hbw
    obtain ⟨k, V, rfl, hk, rfl, hown, hbw⟩ := hrel
    by_cases hlt : k < n
    · have hlen := Lib.hid (show ((ms.take k).map (hidR b4 b6)).length ≤ 20 from by
        rw [List.length_map, List.length_take]; omega)
      obtain ⟨x, hxk⟩ : ∃ x, ms[k]? = some x := ⟨ms[k]'(by have := hL.out; omega), List.getElem?_eq_getElem _⟩
      obtain ⟨g0, off, hA, hQ2⟩ : ∃ g off, A = some ⟨g, off, none⟩ ∧ SlE eRp wr (some ⟨g, off, none⟩) n cap ms := by
        have h := hS.out.below hbw
        rcases h.2.2.2 with h0 | ⟨g, off, hA, _⟩
        · omega
        · exact ⟨g, off, hA, hA ▸ h⟩
      subst hA
      have l1 : (ldT 37 (.pointer (some ⟨g0, off + k * 14, none⟩))).run Tryz.prog wr = .ok (.value (rpA x)) wr := hQ2.ld rowRp hxk
      have hcap := hQ2.2.1
      have hlt' : (k : Int) < n := by omega
      have S4 : (stT 37 (.pointer (some ⟨wr.heap.size, 0, none⟩)) (rpA x)).run Tryz.prog (wr.alloc (.cells #[.string ⟨#[]⟩, .int .i64 0, .bool false, .int .i64 0, .bool false, .int .u64 0, .int .u64 0, .bool false, .int .u64 0, .int .u64 0, .int .i64 0, .int .i64 0, .int .i64 0, .int .i64 0] 37)) = .ok .skip (wr.alloc (.cells (rpC x).toArray 37)) :=
        stT_new rowRp wr wr.heap.size rfl zRpC (rpC x) rfl (rpC_len x) (rpC_one x)
      have hX := Blk.new wr (rpC x) 37
      have hxm := List.mem_of_getElem? hxk
      have htk := Lib.hid (show ms.take (k + 1) = ms.take k ++ [x] by rw [List.take_add_one, hxk]; rfl)
      have hp9 := hbw.size
      have hst := Lib.hid (show (ms.take (k + 1)).map (hidR b4 b6) = (ms.take k).map (hidR b4 b6) ++ [hidR b4 b6 x] by rw [htk.out, List.map_append]; rfl)
      generalize (ms.take k).map (hidR b4 b6) = os at *
      have hxU := (hG.out x hxm).1
      have hpr0 : ∀ q, V.ownBlock = some q → q ≠ wr.heap.size := fun q h => by have := (hown.lt q h).2; omega
      have hpr : V.ownBlock = none ∨ V.ownBlock ≠ some wr.heap.size := by
        cases hv : V.ownBlock with
        | none => exact .inl rfl
        | some q => exact .inr (fun e => hpr0 q hv (Option.some.inj e))
      clear hpr0
      replace hown := hown.below ((Below.refl _ _).alloc (Nat.le_refl _) (.cells (rpC x).toArray 37))
      replace hbw := hbw.alloc hbw.size (.cells (rpC x).toArray 37)
      go_upto_region 6 with fail
      obtain ⟨wa, hwa⟩ : ∃ wa, wa = wr.alloc (.cells (rpC x).toArray 37) := ⟨_, rfl⟩
      have hza : wa.heap.size = wr.heap.size + 1 := by rw [hwa]; simp
      rw [← hwa] at hX hbw hown ⊢
      generalize wr.heap.size = p9 at hX hp9 hza hpr ⊢
      clear hwa l1 S4 hQ2 hxk
      have H1 := Lib.hid (fun W hW => HH.out x.fl.f hxU.1.1 W hW)
      have H2 := Lib.hid (fun W hW => HH.out x.fl.t hxU.1.2.1 W hW)
      have hRR : rpC (hidR b4 b6 x) = setL (setL (rpC x) 4 (adC (hidA b4 b6 x.fl.f))) 7 (adC (hidA b4 b6 x.fl.t)) := rfl
      replace hRR := Lib.hid hRR
      generalize hidR b4 b6 x = fin at *
      generalize hidA b4 b6 x.fl.f = m1 at *
      generalize hidA b4 b6 x.fl.t = m2 at *
      clear hxU hza
      refine wx_begin (none) [12, 15] (by kernel_rfl) (fun u0 hb0' hz0' => ?_)
      replace hown := hown.below hb0'
      replace hX := hX.below hb0'
      replace hbw := hbw.trans (hb0'.mono hbw.size)
      clear hb0' hz0'
      refine wx_pure (i := 0) (d := some 18) (v := ?_) (by simp only [List.getElem?_toArray, List.getElem?_cons_succ, List.getElem?_cons_zero] <;> rfl) (by rfl) (by kernel_rfl) (by kernel_rfl) (by kernel_rfl) (fun _ _ _ h => h) (by rfl) ?_ ?_
      rotate_left
      · ((intro u); go_simp; try with_reducible rfl)
      try simp only [Act.put, List.setIfInBounds_toArray, List.set_cons_zero, List.set_cons_succ]
      refine wx_pure (i := 1) (d := some 19) (v := ?_) (by simp only [List.getElem?_toArray, List.getElem?_cons_succ, List.getElem?_cons_zero] <;> rfl) (by rfl) (by kernel_rfl) (by kernel_rfl) (by kernel_rfl) (fun _ _ _ h => h) (by rfl) ?_ ?_
      rotate_left
      · ((intro u); go_simp; try with_reducible rfl)
      try simp only [Act.put, List.setIfInBounds_toArray, List.set_cons_zero, List.set_cons_succ]
      refine wx_pure (i := 2) (d := some 20) (v := ?_) (by simp only [List.getElem?_toArray, List.getElem?_cons_succ, List.getElem?_cons_zero] <;> rfl) (by rfl) (by kernel_rfl) (by kernel_rfl) (by kernel_rfl) (fun _ _ _ h => h) (by rfl) ?_ ?_
      rotate_left
      · ((intro u); go_simp; try with_reducible rfl)
      try simp only [Act.put, List.setIfInBounds_toArray, List.set_cons_zero, List.set_cons_succ]
      refine wx_take (i := 3) (d := some 21) (v := ?_) (by simp only [List.getElem?_toArray, List.getElem?_cons_succ, List.getElem?_cons_zero] <;> rfl) (by rfl) (by kernel_rfl) (by kernel_rfl) (by kernel_rfl) (fun _ _ _ h => h) (by rfl) (by kernel_rfl) ?_ ?_
      rotate_left
      · ((intro u hu); have kx := hX.gn hu; have k1 := kx.ldAt rowAd 4 (adC x.fl.f) _ rfl (by rw [rpC_split]; rfl); have k2 := kx.ldAt rowAd 7 (adC x.fl.t) _ rfl (by rw [rpC_split]; rfl); clear kx; go_simp; try with_reducible rfl)
      try simp only [Act.put, List.setIfInBounds_toArray, List.set_cons_zero, List.set_cons_succ]
      refine wx_pure (i := 5) (d := some 23) (v := ?_) (by simp only [List.getElem?_toArray, List.getElem?_cons_succ, List.getElem?_cons_zero] <;> rfl) (by rfl) (by kernel_rfl) (by kernel_rfl) (by kernel_rfl) (fun _ _ _ h => h) (by rfl) ?_ ?_
      rotate_left
      · ((intro u); go_simp; try with_reducible rfl)
      try simp only [Act.put, List.setIfInBounds_toArray, List.set_cons_zero, List.set_cons_succ]
      refine wx_pure (i := 6) (d := some 24) (v := ?_) (by simp only [List.getElem?_toArray, List.getElem?_cons_succ, List.getElem?_cons_zero] <;> rfl) (by rfl) (by kernel_rfl) (by kernel_rfl) (by kernel_rfl) (fun _ _ _ h => h) (by rfl) ?_ ?_
      rotate_left
      · ((intro u); go_simp; try with_reducible rfl)
      try simp only [Act.put, List.setIfInBounds_toArray, List.set_cons_zero, List.set_cons_succ]
      refine wx_pure (i := 7) (d := some 25) (v := ?_) (by simp only [List.getElem?_toArray, List.getElem?_cons_succ, List.getElem?_cons_zero] <;> rfl) (by rfl) (by kernel_rfl) (by kernel_rfl) (by kernel_rfl) (fun _ _ _ h => h) (by rfl) ?_ ?_
      rotate_left
      · ((intro u); go_simp; try with_reducible rfl)
      try simp only [Act.put, List.setIfInBounds_toArray, List.set_cons_zero, List.set_cons_succ]
      refine wx_take (i := 8) (d := some 26) (v := ?_) (by simp only [List.getElem?_toArray, List.getElem?_cons_succ, List.getElem?_cons_zero] <;> rfl) (by rfl) (by kernel_rfl) (by kernel_rfl) (by kernel_rfl) (fun _ _ _ h => h) (by rfl) (by kernel_rfl) ?_ ?_
      rotate_left
      · ((intro u hu); have kx := hX.gn hu; have k1 := kx.ldAt rowAd 4 (adC x.fl.f) _ rfl (by rw [rpC_split]; rfl); have k2 := kx.ldAt rowAd 7 (adC x.fl.t) _ rfl (by rw [rpC_split]; rfl); clear kx; go_simp; try with_reducible rfl)
      try simp only [Act.put, List.setIfInBounds_toArray, List.set_cons_zero, List.set_cons_succ]
      refine wx_one (i := 4) (by simp only [List.getElem?_toArray, List.getElem?_cons_succ, List.getElem?_cons_zero] <;> rfl) (by kernel_rfl) (by rfl) (fun K hK => ?_)
      go_simp
      refine (H1.out _ hbw).mono ?_
      rintro e wq4 ⟨rfl, hv1⟩
      refine hK.out _ _ (gbB hv1) ?_
      replace hown := hown.below hv1
      replace hX := hX.below hv1
      replace hbw := hbw.trans (hv1.mono hbw.size)
      clear hK K hv1
      try simp only [Act.put, List.setIfInBounds_toArray, List.set_cons_zero, List.set_cons_succ]
      refine wx_pure (i := 10) (d := some 28) (v := ?_) (by simp only [List.getElem?_toArray, List.getElem?_cons_succ, List.getElem?_cons_zero] <;> rfl) (by rfl) (by kernel_rfl) (by kernel_rfl) (by kernel_rfl) (fun _ _ _ h => h) (by rfl) ?_ ?_
      rotate_left
      · ((intro u); go_simp; try with_reducible rfl)
      try simp only [Act.put, List.setIfInBounds_toArray, List.set_cons_zero, List.set_cons_succ]
      refine wx_pure (i := 11) (d := some 29) (v := ?_) (by simp only [List.getElem?_toArray, List.getElem?_cons_succ, List.getElem?_cons_zero] <;> rfl) (by rfl) (by kernel_rfl) (by kernel_rfl) (by kernel_rfl) (fun _ _ _ h => h) (by rfl) ?_ ?_
      rotate_left
      · ((intro u); go_simp; try with_reducible rfl)
      try simp only [Act.put, List.setIfInBounds_toArray, List.set_cons_zero, List.set_cons_succ]
      refine wx_one (i := 9) (by simp only [List.getElem?_toArray, List.getElem?_cons_succ, List.getElem?_cons_zero] <;> rfl) (by kernel_rfl) (by rfl) (fun K hK => ?_)
      go_simp
      refine (H2.out _ hbw).mono ?_
      rintro e wq9 ⟨rfl, hv1⟩
      refine hK.out _ _ (gbB hv1) ?_
      replace hown := hown.below hv1
      replace hX := hX.below hv1
      replace hbw := hbw.trans (hv1.mono hbw.size)
      clear hK K hv1
      try simp only [Act.put, List.setIfInBounds_toArray, List.set_cons_zero, List.set_cons_succ]
      refine wx_store (i := 12) (by simp only [List.getElem?_toArray, List.getElem?_cons_succ, List.getElem?_cons_zero] <;> rfl) (by kernel_rfl) (by rfl) (by kernel_rfl) (fun K hK => ?_)
      go_simp
      have S := stT_mid rowAd hX 4 (by simp only [setL_len', rpC_len]; decide) (adC_len m1) (adC_one m1)
      go_simp
      refine hK _ _ ?_
      have hX2 := blk_cellsN (adC m1) 4 _ _ hX
      have ho2 := hown.gb (gb_cellsN (g := p9) (adC m1) 4 _) hpr
      have hb2 := below_setC (B := wE.heap.size) (b := p9) hp9 (adC m1) 4 _ hbw
      clear hK K S hX hown hbw
      have hX := hX2
      have hown := ho2
      have hbw := hb2
      clear hX2 ho2 hb2
      try simp only [Act.put, List.setIfInBounds_toArray, List.set_cons_zero, List.set_cons_succ]
      refine wx_pure (i := 13) (d := some 30) (v := ?_) (by simp only [List.getElem?_toArray, List.getElem?_cons_succ, List.getElem?_cons_zero] <;> rfl) (by rfl) (by kernel_rfl) (by kernel_rfl) (by kernel_rfl) (fun _ _ _ h => h) (by rfl) ?_ ?_
      rotate_left
      · ((intro u); go_simp; try with_reducible rfl)
      try simp only [Act.put, List.setIfInBounds_toArray, List.set_cons_zero, List.set_cons_succ]
      refine wx_pure (i := 14) (d := some 31) (v := ?_) (by simp only [List.getElem?_toArray, List.getElem?_cons_succ, List.getElem?_cons_zero] <;> rfl) (by rfl) (by kernel_rfl) (by kernel_rfl) (by kernel_rfl) (fun _ _ _ h => h) (by rfl) ?_ ?_
      rotate_left
      · ((intro u); go_simp; try with_reducible rfl)
      try simp only [Act.put, List.setIfInBounds_toArray, List.set_cons_zero, List.set_cons_succ]
      refine wx_store (i := 15) (by simp only [List.getElem?_toArray, List.getElem?_cons_succ, List.getElem?_cons_zero] <;> rfl) (by kernel_rfl) (by rfl) (by kernel_rfl) (fun K hK => ?_)
      go_simp
      have S := stT_mid rowAd hX 7 (by simp only [setL_len', rpC_len]; decide) (adC_len m2) (adC_one m2)
      go_simp
      refine hK _ _ ?_
      have hX2 := blk_cellsN (adC m2) 7 _ _ hX
      have ho2 := hown.gb (gb_cellsN (g := p9) (adC m2) 7 _) hpr
      have hb2 := below_setC (B := wE.heap.size) (b := p9) hp9 (adC m2) 7 _ hbw
      clear hK K S hX hown hbw
      have hX := hX2
      have hown := ho2
      have hbw := hb2
      clear hX2 ho2 hb2
      try simp only [Act.put, List.setIfInBounds_toArray, List.set_cons_zero, List.set_cons_succ]
      refine wx_done (by kernel_rfl) ?_ _
      rw [← hRR.out] at hX
      have lx := hX.ld rowRp (rpC_len fin)
      clear hX H1 H2 hRR
      generalize hWW : World.setCells _ p9 7 (adC m2) = wb at *
      clear hWW
      go_wp2_with (at_builtin; refine wpList_app tyeRp rfl _ _ rfl wE.heap.size _ os [fin] rfl (hown.below ((Below.refl _ _).alloc (Nat.le_refl _) _)) ⟨_, 0, none⟩ 1 1 rfl rfl ?d1 ?d2 ?d3 ?_)
      case d1 => first | exact cell_row_at _ _ _ _ rfl | (intro j u h; have e : Enc.cells eRp [fin] = rpC fin := List.append_nil _; rw [e] at h; exact h)
      case d2 => have := hlen.out; first | omega | (simp only [List.length_singleton]; omega)
      case d3 => have := hbw.size; simp; omega
      intro v' w3 hown3 hg3 hd3
      have hb3 := (hbw.alloc hbw.size _).grown hg3 (by have := hbw.size; simp; omega) (fun r h => by have := (hown.lt r h).1; omega)
      replace hown3 := Lib.hid hown3
      replace hb3 := Lib.hid hb3
      clear hg3 hd3 hown hbw lx
      go_wp2_with fail
      go_roundw
      case rel => exact ⟨k + 1, _, rfl, by omega, by go_num, by rw [hst.out]; exact hown3.out, hb3.out⟩
      case measure => simp [intOf]; omega
    · have hkL : k = n := by omega
      subst hkL
      rw [hL.out, List.take_length] at hown
      have hhG : ∀ y ∈ ms.map (hidR b4 b6), y.U ∧ y.N := fun y hy => by
        obtain ⟨x, hx, rfl⟩ := List.mem_map.1 hy
        exact hidR_U (hG.out x hx)
      have hml := Lib.hid (show (ms.map (hidR b4 b6)).length = k by rw [List.length_map]; exact hL.out.symm)
      generalize ms.map (hidR b4 b6) = ts at *
      obtain ⟨Ao, co, hvo, _⟩ := hown.sl
      rw [hml.out] at hvo
      subst hvo
      have HT := Lib.hid (togetherRef_any wE.heap.size Ao k co ts wr hown (fun x hx => (hhG x hx).1) (fun x hx => (hhG x hx).2) hml.out.symm hn hbw.size)
      have hgk := fun q (h : (Value.slice Ao k co).ownBlock = some q) => (hown.lt q h).1
      clear HH hhG hown hG hS
      go_wp2_with fail
      refine HT.out.mono ?_
      intro e w5 hq
      obtain ⟨A5, m5, c5, zs, rfl, hO5, hm5, hzl5, hT5, hg5⟩ := hq
      have hb5 := hbE.out.trans ((hbw.grown hg5 hbw.size hgk).mono hwB)
      obtain ⟨A6, c6, hv6, hS6⟩ := hO5.sl
      injection hv6 with e1 e2 e3
      subst e1 e3
      rw [← e2] at hS6
      replace hT5 := Lib.hid hT5
      replace hS6 := Lib.hid hS6
      clear HT hg5 hO5 hgk hbw e2 hm5 hzl5
      go_wp2_with fail
      go_ret
      exact ⟨A5, m5, c5, zs, rfl, hS6.out, hT5.out, hb5⟩
end Go.Proofs.YtilgjgdppfnefaaGreatDoor
