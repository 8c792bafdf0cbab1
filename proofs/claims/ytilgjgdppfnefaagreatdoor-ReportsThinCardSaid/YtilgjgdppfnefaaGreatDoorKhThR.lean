/- Reports that are put together: ThinOf. -/
import Derived.Test.YtilgjgdppfnefaaGreatDoorKhThP
namespace Go.Proofs.YtilgjgdppfnefaaGreatDoor
open Go.RowKit
set_option linter.unusedVariables false
set_option linter.unusedSimpArgs false

theorem two_mem {a b : Nat} {P : Nat → Prop} (h1 : P a) (h2 : P b) : ∀ q ∈ [a, b], P q := by
  intro q hq
  rcases List.mem_cons.1 hq with h | h
  · rw [h]; exact h1
  · rw [List.mem_singleton.1 h]; exact h2
abbrev HFV (p q : Nat) : Value := .func (.func 46) #[] #[.pointer (some ⟨p, 0, none⟩), .pointer (some ⟨q, 0, none⟩)]
theorem repF_A {x : Rp} (h : repF x = 0) : x.A := by
  unfold repF at h
  have h1 := firstZ_zero_all h
  have h2 := firstZ_zero_all (h1 _ (List.mem_cons_self ..))
  have e := h2 (flE x.fl) (by simp)
  unfold flE flF at e
  by_cases c : x.fl.p < 1 ∨ 255 < x.fl.p
  · rw [if_pos c] at e; cases e
  · rw [if_neg c] at e
    by_cases c2 : firstZ [adF x.fl.f.s x.fl.f.hi x.fl.f.lo, adF x.fl.t.s x.fl.t.hi x.fl.t.lo] ≠ 0
    · rw [if_pos c2] at e; exact absurd e c2
    · have c3 := firstZ_zero_all (show firstZ [adF x.fl.f.s x.fl.f.hi x.fl.f.lo, adF x.fl.t.s x.fl.t.hi x.fl.t.lo] = 0 by omega)
      exact ⟨c3 _ (by simp), c3 _ (by simp)⟩
theorem repsF_A {rs : List Rp} (h : repsF rs = 0) : ∀ x ∈ rs, x.A := by
  unfold repsF at h
  by_cases k : 3000 < rs.length
  · rw [if_pos k] at h; cases h
  · rw [if_neg k] at h
    exact fun x hx => repF_A ((risL_zero h).1 x hx)

set_option maxHeartbeats 4000000 in
set_option maxRecDepth 100000 in
theorem togetherHide_any (fb p q : Nat) (b4 b6 : Int) (A : Option Addr) (n cap : Nat) (ms : List Rp) (w : World) (hF : Blk w fb [HFV p q] 81) (hp : Blk w p [.int .i64 b4] 3) (hq : Blk w q [.int .i64 b6] 3) (hI : InB b4 b6) (hS : SlE eRp w A n cap ms) (hn : n ≤ 20) (hG : ∀ x ∈ ms, x.G) (hA : ∀ x ∈ ms, x.A) :
    Calls Tryz.prog 44 #[.slice A n cap, .func (.func 48) #[] #[.pointer (some ⟨fb, 0, none⟩)]] w (TogP w (ms.map (hidR b4 b6))) := by
  have HM := Lib.hid (mapHide_any fb (hidR b4 b6) A n cap ms w (fun x hx W hW => hide2_any fb p q b4 b6 x W (hF.below hW) (hp.below hW) (hq.below hW) hI (hG x hx).1 (hA x hx)) hS (by omega))
  have hU := Lib.hid (show ∀ x ∈ ms.map (hidR b4 b6), x.U from fun x hx => by
    obtain ⟨y, hy, rfl⟩ := List.mem_map.1 hx
    exact (hidR_U (hG y hy)).1)
  have hN := Lib.hid (show ∀ x ∈ ms.map (hidR b4 b6), x.N from fun x hx => by
    obtain ⟨y, hy, rfl⟩ := List.mem_map.1 hx
    exact (hidR_U (hG y hy)).2)
  have hl := Lib.hid (show (ms.map (hidR b4 b6)).length = n by rw [List.length_map]; exact hS.1.symm)
  generalize ms.map (hidR b4 b6) = ts at *
  clear hF hp hq hI hS hG hA
  go_enter Tryz.func44, Tryz.ntmps44
  go_wp2_with fail
  refine HM.out.mono ?_
  rintro e w1 ⟨⟨A', c', rfl, hown⟩, hb⟩
  obtain ⟨A2, c2, hv, hS1⟩ := hown.sl
  rw [hl.out] at hv hS1
  injection hv with e1 e2 e3
  subst e1 e3
  have HGa := Lib.hid (gather_any A' n c' ts w1 hS1 hn hU.out hN.out)
  clear HM hown hS1
  go_wp2_with fail
  refine HGa.out.mono ?_
  intro e w2 hq
  obtain ⟨A3, m3, c3, zs, rfl, hS3, hT, hb2⟩ := hq
  have hbF := hb.trans (hb2.mono hb.size)
  replace hS3 := Lib.hid hS3
  replace hT := Lib.hid hT
  clear HGa hb hb2
  go_wp2_with fail
  go_ret
  exact ⟨A3, m3, c3, zs, rfl, hS3.out, hT.out, hbF⟩

set_option maxHeartbeats 4000000 in
set_option maxRecDepth 100000 in
theorem flowHide_any (b4 b6 : Int) (A : Option Addr) (n cap : Nat) (ms : List Rp) (w : World) (hS : SlE eRp w A n cap ms) (hn : n ≤ 20) (hU : ∀ x ∈ ms, x.U) :
    Calls Tryz.prog 20 #[.slice A n cap, .int .i64 b4, .int .i64 b6] w (ThP w (firstZ [repsF ms, numE b4 0 32, numE b6 0 128]) (ms.map (hidR b4 b6))) := by
  have C1 := Lib.hid (fun W (hW : Below w.heap.size w W) => check_any A n cap ms W (hS.below hW) (by omega) hU)
  have C2 := Lib.hid (fun w' => (show Calls Tryz.prog 43 #[.int .i64 b4, .int .i64 0, .int .i64 32] w' fun e w2 => e = .returned (.int .i64 (numE b4 0 32)) ∧ w' = w2 from numberI_any b4 0 32 w'))
  have C3 := Lib.hid (fun w' => (show Calls Tryz.prog 43 #[.int .i64 b6, .int .i64 0, .int .i64 128] w' fun e w2 => e = .returned (.int .i64 (numE b6 0 128)) ∧ w' = w2 from numberI_any b6 0 128 w'))
  have HT := Lib.hid (fun (fb p q : Nat) W (hW : Below w.heap.size w W) (hF : Blk W fb [HFV p q] 81) (hp : Blk W p [.int .i64 b4] 3) (hq : Blk W q [.int .i64 b6] 3) (h1 : repsF ms = 0) (h2 : numE b4 0 32 = 0) (h3 : numE b6 0 128 = 0) => togetherHide_any fb p q b4 b6 A n cap ms W hF hp hq ⟨numE_zero h2, numE_zero h3⟩ (hS.below hW) hn (repsF_zero hU h1).1 (repsF_A h1))
  clear hS hn hU
  generalize ms.map (hidR b4 b6) = ts at *
  generalize repsF ms = z1 at *
  generalize numE b4 0 32 = z2 at *
  generalize numE b6 0 128 = z3 at *
  obtain ⟨Z, hZ⟩ : ∃ Z, Z = firstZ [z1, z2, z3] := ⟨_, rfl⟩
  rw [← hZ]
  replace hZ := Lib.hid hZ
  have hA := (Blk.new w [.int .i64 b4] 3).alloc (.cells [.int .i64 b6].toArray 3)
  have hD := Blk.new (w.alloc (.cells [.int .i64 b4].toArray 3)) [.int .i64 b6] 3
  rw [World.size_alloc] at hD
  have hbw : Below w.heap.size w ((w.alloc (.cells [.int .i64 b4].toArray 3)).alloc (.cells [.int .i64 b6].toArray 3)) := ((Below.refl _ _).alloc (Nat.le_refl _) _).alloc (by simp) _
  go_enter Tryz.func20, Tryz.ntmps20
  go_upto_region 1 with fail
  refine wb_begin ([w.heap.size, w.heap.size + 1]) [] (by kernel_rfl) (fun u0 hb0' hz0' => ?_)
  replace hA := hA.below hb0'
  replace hD := hD.below hb0'
  replace hbw := hbw.trans (hb0'.mono hbw.size)
  clear hb0' hz0'
  refine wb_pure (i := 0) (d := some 10) (v := ?_) (by simp only [List.getElem?_toArray, List.getElem?_cons_succ, List.getElem?_cons_zero] <;> rfl) (by rfl) (by kernel_rfl) (by kernel_rfl) (by kernel_rfl) (fun _ _ _ h => h) (by rfl) ?_ ?_
  rotate_left
  · ((intro u); go_simp; try with_reducible rfl)
  try simp only [Act.put, List.setIfInBounds_toArray, List.set_cons_zero, List.set_cons_succ]
  refine wb_take (i := 2) (d := some 12) (v := ?_) (by simp only [List.getElem?_toArray, List.getElem?_cons_succ, List.getElem?_cons_zero] <;> rfl) (by rfl) (by kernel_rfl) (by kernel_rfl) (by kernel_rfl) (fun _ _ _ h => h) (by rfl) (by kernel_rfl) ?_ ?_
  rotate_left
  · ((intro u hu); have a0 := (hA.kb hu (List.mem_cons_self ..)).cell (i := 0) (v := .int .i64 b4) rfl; have a1 := (hD.kb hu (List.mem_cons_of_mem _ (List.mem_singleton.2 rfl))).cell (i := 0) (v := .int .i64 b6) rfl; go_simp; try with_reducible rfl)
  try simp only [Act.put, List.setIfInBounds_toArray, List.set_cons_zero, List.set_cons_succ]
  refine wb_take (i := 4) (d := some 14) (v := ?_) (by simp only [List.getElem?_toArray, List.getElem?_cons_succ, List.getElem?_cons_zero] <;> rfl) (by rfl) (by kernel_rfl) (by kernel_rfl) (by kernel_rfl) (fun _ _ _ h => h) (by rfl) (by kernel_rfl) ?_ ?_
  rotate_left
  · ((intro u hu); have a0 := (hA.kb hu (List.mem_cons_self ..)).cell (i := 0) (v := .int .i64 b4) rfl; have a1 := (hD.kb hu (List.mem_cons_of_mem _ (List.mem_singleton.2 rfl))).cell (i := 0) (v := .int .i64 b6) rfl; go_simp; try with_reducible rfl)
  try simp only [Act.put, List.setIfInBounds_toArray, List.set_cons_zero, List.set_cons_succ]
  refine wb_one (i := 1) (by simp only [List.getElem?_toArray, List.getElem?_cons_succ, List.getElem?_cons_zero] <;> rfl) (by kernel_rfl) (by rfl) (fun K hK => ?_)
  go_simp
  refine (C1.out _ hbw).mono ?_
  rintro e wq1 ⟨rfl, hv1⟩
  refine hK _ _ (Kb.below hv1 (two_mem hA.lt hD.lt)) ?_
  replace hA := hA.below hv1
  replace hD := hD.below hv1
  replace hbw := hbw.trans (hv1.mono hbw.size)
  clear hK K hv1
  try simp only [Act.put, List.setIfInBounds_toArray, List.set_cons_zero, List.set_cons_succ]
  refine wb_one (i := 3) (by simp only [List.getElem?_toArray, List.getElem?_cons_succ, List.getElem?_cons_zero] <;> rfl) (by kernel_rfl) (by rfl) (fun K hK => ?_)
  go_simp
  refine (C2.out _).mono ?_
  rintro e wq3 ⟨rfl, rfl⟩
  refine hK _ _ (Kb.refl _ _) ?_
  clear hK K
  try simp only [Act.put, List.setIfInBounds_toArray, List.set_cons_zero, List.set_cons_succ]
  refine wb_one (i := 5) (by simp only [List.getElem?_toArray, List.getElem?_cons_succ, List.getElem?_cons_zero] <;> rfl) (by kernel_rfl) (by rfl) (fun K hK => ?_)
  go_simp
  refine (C3.out _).mono ?_
  rintro e wq5 ⟨rfl, rfl⟩
  refine hK _ _ (Kb.refl _ _) ?_
  clear hK K
  try simp only [Act.put, List.setIfInBounds_toArray, List.set_cons_zero, List.set_cons_succ]
  refine wb_one (i := 6) (by simp only [List.getElem?_toArray, List.getElem?_cons_succ, List.getElem?_cons_zero] <;> rfl) (by kernel_rfl) (by rfl) (fun K hK => ?_)
  go_simp
  refine hK _ _ (Kb.gb (World.grownBy_alloc _ _ none) (two_mem ⟨hA.lt, by simp⟩ ⟨hD.lt, by simp⟩)) ?_
  refine wb_new (cs := [z1, z2, z3].map (Value.int .i64)) (t := 39) (fun u91 hv3 hL3 hz3 => ?_)
  replace hA := hA.below hv3
  replace hD := hD.below hv3
  replace hbw := hbw.trans (hv3.mono hbw.size)
  clear hK K hv3 hz3
  try simp only [Act.put, List.setIfInBounds_toArray, List.set_cons_zero, List.set_cons_succ]
  refine wb_one (i := 7) (by simp only [List.getElem?_toArray, List.getElem?_cons_succ, List.getElem?_cons_zero] <;> rfl) (by kernel_rfl) (by rfl) (fun K hK => ?_)
  go_simp
  refine (orF_blk [z1, z2, z3] _ _ _ _ hL3 (by simp)).mono ?_
  rintro e w' ⟨rfl, rfl⟩
  refine hK _ _ (Kb.refl _ _) ?_
  clear hK K hL3
  try simp only [Act.put, List.setIfInBounds_toArray, List.set_cons_zero, List.set_cons_succ]
  refine wb_pure (i := 8) (d := some 8) (v := ?_) (by simp only [List.getElem?_toArray, List.getElem?_cons_succ, List.getElem?_cons_zero] <;> rfl) (by rfl) (by kernel_rfl) (by kernel_rfl) (by kernel_rfl) (fun _ _ _ h => h) (by rfl) ?_ ?_
  rotate_left
  · ((intro u); go_simp; try with_reducible rfl)
  try simp only [Act.put, List.setIfInBounds_toArray, List.set_cons_zero, List.set_cons_succ]
  refine wb_done (by kernel_rfl) ?_ _
  skip
  rw [← hZ.out]
  by_cases h0 : Z = 0
  · subst h0
    have hz := firstZ_zero_all hZ.out.symm
    have hF := Blk.new u91 [HFV w.heap.size (w.heap.size + 1)] 81
    have hbA : Below u91.heap.size u91 (u91.alloc (.cells [HFV w.heap.size (w.heap.size + 1)].toArray 81)) := (Below.refl _ _).alloc (Nat.le_refl _) _
    replace hbw := hbw.trans (hbA.mono hbw.size)
    have HT2 := Lib.hid (HT.out _ _ _ _ hbw hF (hA.below hbA) (hD.below hbA) (hz z1 (by simp)) (hz z2 (by simp)) (hz z3 (by simp)))
    clear HT C1 C2 C3 hz hF hA hD hbA
    go_wp2_with fail
    refine HT2.out.mono ?_
    intro e w5 hq
    obtain ⟨A3, m3, c3, zs, rfl, hS3, hT, hb2⟩ := hq
    have hbF := hbw.trans (hb2.mono hbw.size)
    replace hS3 := Lib.hid hS3
    replace hT := Lib.hid hT
    clear HT2 hb2 hbw
    go_wp2_with fail
    go_ret2
    exact ⟨hbF, .inr ⟨rfl, A3, m3, c3, zs, rfl, hS3.out, hT.out⟩⟩
  · have hb : (Z != 0) = true := by simpa using h0
    clear HT C1 C2 C3 hA hD
    go_wp2_with fail
    go_ret2
    exact ⟨hbw, .inl ⟨h0, rfl⟩⟩
end Go.Proofs.YtilgjgdppfnefaaGreatDoor
namespace Go.Proofs.YtilgjgdppfnefaaGreatDoor
open Go.RowKit
set_option linter.unusedVariables false
set_option linter.unusedSimpArgs false

/-- Rows that lie apart. -/
def Dj (a b : Value) : Prop := ∀ q, a.ownBlock = some q → b.ownBlock ≠ some q
theorem Dj.symm {a b : Value} (h : Dj a b) : Dj b a := fun q hb ha => h q ha hb
theorem Dj.gb {a b : Value} (h : Dj a b) : b.ownBlock = none ∨ b.ownBlock ≠ a.ownBlock := by
  cases hb : b.ownBlock with
  | none => exact .inl rfl
  | some k => exact .inr (fun e => h k e.symm hb)
theorem dj_app {a a' b : Value} {N : Nat} (h : Dj a b) (hb : ∀ k, b.ownBlock = some k → k < N) (ha : a'.ownBlock = a.ownBlock ∨ a'.ownBlock = some N) : Dj a' b := by
  intro q h1 h2
  rcases ha with e | e
  · exact h q (e.symm.trans h1) h2
  · rw [e] at h1
    have := hb q h2
    have := Option.some.inj h1
    omega
theorem oldL_len (d : Int) (ms : List Rp) : (oldL d ms).length ≤ ms.length := by
  unfold oldL
  rw [List.length_map]
  exact List.length_filter_le _ _
theorem restL_len (d : Int) (ms : List Rp) : (restL d ms).length ≤ ms.length := List.length_filter_le _ _

set_option maxHeartbeats 4000000 in
set_option maxRecDepth 100000 in
theorem thinOf_any (d : Int) (hd : 0 ≤ d ∧ d ≤ 4001) (A : Option Addr) (n cap : Nat) (ms : List Rp) (w : World) (hS : SlE eRp w A n cap ms) (hn : n ≤ 20) (hG : ∀ x ∈ ms, x.G) (hs : ms.Pairwise LtR) :
    Calls Tryz.prog 22 #[.slice A n cap, .int .i64 d] w (TogP w (ms.map (thinR d))) := by
  have hL := Lib.hid hS.1
  have hbw := Below.refl w.heap.size w
  have hTT := Lib.hid (fun zs h => thin_tog (d := d) (zs := zs) hG hs h)
  replace hG := Lib.hid hG
  replace hS := Lib.hid hS
  clear hs
  generalize ms.map (thinR d) = ts at *
  go_enter Tryz.func22, Tryz.ntmps22
  go_wp2_with fail
  go_loopw [5, 6, 11] (fun vo vr vi wr => ∃ (k : Nat), k ≤ n ∧ vi = .int .i64 k ∧ OwnE eRp 37 w.heap.size wr vo (oldL d (ms.take k)) ∧ OwnE eRp 37 w.heap.size wr vr (restL d (ms.take k)) ∧ Dj vo vr ∧ Below w.heap.size w wr) (fun _ _ vi _ => n - (intOf vi).toNat)
  case atStart => exact ⟨0, Nat.zero_le _, rfl, OwnE.nil _ _, OwnE.nil _ _, (fun q h => by cases h), hbw⟩
  case round =>
    clear hbw
    obtain ⟨k, hk, rfl, hO, hR, hD, hbw⟩ := hrel
    by_cases hlt : k < n
    · have hlen := Lib.hid (show (oldL d (ms.take k)).length ≤ 20 ∧ (restL d (ms.take k)).length ≤ 20 from by
        have h1 := oldL_len d (ms.take k)
        have h2 := restL_len d (ms.take k)
        rw [List.length_take] at h1 h2
        exact ⟨by omega, by omega⟩)
      obtain ⟨x, hxk⟩ : ∃ x, ms[k]? = some x := ⟨ms[k]'(by have := hL.out; omega), List.getElem?_eq_getElem _⟩
      obtain ⟨g0, off, hA, hQ2⟩ : ∃ g off, A = some ⟨g, off, none⟩ ∧ SlE eRp wr (some ⟨g, off, none⟩) n cap ms := by
        have h := hS.out.below hbw
        rcases h.2.2.2 with h0 | ⟨g, off, hA, _⟩
        · omega
        · exact ⟨g, off, hA, hA ▸ h⟩
      subst hA
      have l1 : (ldT 37 (.pointer (some ⟨g0, off + k * 14, none⟩))).run Tryz.prog wr = .ok (.value (rpA x)) wr := hQ2.ld rowRp hxk
      have hcap := hQ2.2.1
      have hlt' : (k : Int) < n := by omega
      have S4 : (stT 37 (.pointer (some ⟨wr.heap.size, 0, none⟩)) (rpA x)).run Tryz.prog (wr.alloc (.cells #[.string ⟨#[]⟩, .int .i64 0, .bool false, .int .i64 0, .bool false, .int .u64 0, .int .u64 0, .bool false, .int .u64 0, .int .u64 0, .int .i64 0, .int .i64 0, .int .i64 0, .int .i64 0] 37)) = .ok .skip (wr.alloc (.cells (rpC x).toArray 37)) :=
        stT_new rowRp wr wr.heap.size rfl zRpC (rpC x) rfl (rpC_len x) (rpC_one x)
      have hX := Blk.new wr (rpC x) 37
      have hxm := List.mem_of_getElem? hxk
      have htk := Lib.hid (show ms.take (k + 1) = ms.take k ++ [x] by rw [List.take_add_one, hxk]; rfl)
      have hp9 := hbw.size
      have hold := Lib.hid (oldL_app d (ms.take k) [x])
      have hres := Lib.hid (restL_app d (ms.take k) [x])
      rw [← htk.out] at hold hres
      generalize oldL d (ms.take k) = os at *
      generalize restL d (ms.take k) = rs at *
      have hxG := hG.out x hxm
      have e0 : IntKind.i64.wrap (24 * d) = 24 * d := IntWalk.i64_in _ (by omega)
      have c1 := hX.cell (i := 1) (v := .int .i64 x.hour) rfl
      have hlo := fun q h => (hO.lt q h).2
      have hlr := fun q h => (hR.lt q h).2
      replace hO := hO.below ((Below.refl _ _).alloc (Nat.le_refl _) (.cells (rpC x).toArray 37))
      replace hR := hR.below ((Below.refl _ _).alloc (Nat.le_refl _) (.cells (rpC x).toArray 37))
      replace hbw := hbw.alloc hbw.size (.cells (rpC x).toArray 37)
      go_upto_region 5 with fail
      obtain ⟨wa, hwa⟩ : ∃ wa, wa = wr.alloc (.cells (rpC x).toArray 37) := ⟨_, rfl⟩
      have hza : wa.heap.size = wr.heap.size + 1 := by rw [hwa]; simp
      rw [← hwa] at hX hbw hO hR c1 ⊢
      generalize wr.heap.size = p9 at hX hp9 hza hlo hlr c1 ⊢
      clear hwa l1 S4 hQ2 hxk
      by_cases hh : x.hour < d * 24
      · have hh1 : ¬ 24 * d ≤ x.hour := by omega
        have hold2 := Lib.hid (show oldL d (ms.take (k + 1)) = os ++ [dayR x] by rw [hold.out, oldL_one hh])
        have hres2 := Lib.hid (show restL d (ms.take (k + 1)) = rs by rw [hres.out, restL_no hh, List.append_nil])
        clear hold hres hh
        have m0 := Int.emod_nonneg x.hour (show (24 : Int) ≠ 0 by decide)
        have m1 := Int.emod_lt_of_pos x.hour (show (0 : Int) < 24 by decide)
        have hx0 := hxG.2.2.1
        have hx1 := hxG.2.2.2
        have e2 : IntKind.i64.wrap (x.hour % 24) = x.hour % 24 := IntWalk.i64_in _ (by omega)
        have e3 : IntKind.i64.wrap (x.hour - x.hour % 24) = x.hour - x.hour % 24 := IntWalk.i64_in _ (by omega)
        have c10 := hX.cell (i := 10) (v := .int .i64 x.fl.fp) rfl
        have c11 := hX.cell (i := 11) (v := .int .i64 x.fl.tp) rfl
        have f1 := hX.free 1
        have f10 := hX.free 10
        have f11 := hX.free 11
        have hX2 := ((hX.set 1 (.int .i64 (x.hour - x.hour % 24))).set 10 (.int .i64 0)).set 11 (.int .i64 0)
        replace hX2 : Blk _ _ (rpC (dayR x)) _ := hX2
        have hpo : ∀ v : Value, (∀ q, v.ownBlock = some q → q < p9) → v.ownBlock = none ∨ v.ownBlock ≠ some p9 := fun v h => by
          cases hv : v.ownBlock with
          | none => exact .inl rfl
          | some q => exact .inr (fun e => by have := h q hv; cases e; omega)
        have hO2 := ((hO.gb (gb_cell1 wa p9 1 (.int .i64 (x.hour - x.hour % 24))) (hpo _ hlo)).gb (gb_cell1 _ p9 10 (.int .i64 0)) (hpo _ hlo)).gb (gb_cell1 _ p9 11 (.int .i64 0)) (hpo _ hlo)
        have hR2 := ((hR.gb (gb_cell1 wa p9 1 (.int .i64 (x.hour - x.hour % 24))) (hpo _ hlr)).gb (gb_cell1 _ p9 10 (.int .i64 0)) (hpo _ hlr)).gb (gb_cell1 _ p9 11 (.int .i64 0)) (hpo _ hlr)
        have hb2 := ((hbw.setCell (p := ⟨p9, 1, none⟩) hp9 (.int .i64 (x.hour - x.hour % 24))).setCell (p := ⟨p9, 10, none⟩) hp9 (.int .i64 0)).setCell (p := ⟨p9, 11, none⟩) hp9 (.int .i64 0)
        have lx := hX2.ld rowRp (rpC_len (dayR x))
        clear hX hO hR hbw hxG hpo m0 m1
        go_upto_region 9 with fail
        obtain ⟨wb, hwb⟩ : ∃ wb, wb = ((wa.setCell ⟨p9, 1, none⟩ (.int .i64 (x.hour - x.hour % 24))).setCell ⟨p9, 10, none⟩ (.int .i64 0)).setCell ⟨p9, 11, none⟩ (.int .i64 0) := ⟨_, rfl⟩
        have hzb : wb.heap.size = p9 + 1 := by rw [hwb]; simp [hza]
        replace hzb := Lib.hid hzb
        rw [← hwb] at lx hO2 hR2 hb2 ⊢
        have hO := hO2
        have hR := hR2
        have hbw := hb2
        clear hX2 hwb hO2 hR2 hb2 c1 c10 c11 f1 f10 f11 hza e2 e3
        generalize dayR x = y at *
        go_wp2_with (at_builtin; refine wpList_app tyeRp rfl _ _ rfl w.heap.size _ os [y] rfl (hO.below ((Below.refl _ _).alloc (Nat.le_refl _) _)) ⟨_, 0, none⟩ 1 1 rfl rfl ?d1 ?d2 ?d3 ?_)
        case d1 => first | exact cell_row_at _ _ _ _ rfl | (intro j u h; have e : Enc.cells eRp [y] = rpC y := List.append_nil _; rw [e] at h; exact h)
        case d2 => have := hlen.out; first | omega | (simp only [List.length_singleton]; omega)
        case d3 => have := hbw.size; simp; omega
        intro v' w3 hown3 hg3 hd3
        have hb3 := (hbw.alloc hbw.size _).grown hg3 (by have := hbw.size; simp; omega) (fun r h => by have := (hO.lt r h).1; omega)
        have hR3 := (hR.below ((Below.refl _ _).alloc (Nat.le_refl _) _)).gb hg3 hD.gb
        have hD3 := dj_app hD (fun q h => Nat.lt_of_lt_of_le (hlr q h) (by have := hzb.out; simp; omega)) hd3
        replace hown3 := Lib.hid hown3
        replace hR3 := Lib.hid hR3
        replace hb3 := Lib.hid hb3
        replace hD3 := Lib.hid hD3
        clear hg3 hd3 hO hR hbw lx hD
        go_wp2_with fail
        go_roundw
        case rel => exact ⟨k + 1, by omega, by go_num, by rw [hold2.out]; exact hown3.out, by rw [hres2.out]; exact hR3.out, hD3.out, hb3.out⟩
        case measure => simp [intOf]; omega
      · have hh1 : 24 * d ≤ x.hour := by omega
        have hold2 := Lib.hid (show oldL d (ms.take (k + 1)) = os by rw [hold.out, oldL_no hh, List.append_nil])
        have hres2 := Lib.hid (show restL d (ms.take (k + 1)) = rs ++ [x] by rw [hres.out, restL_one hh])
        have lx := hX.ld rowRp (rpC_len x)
        replace hza := Lib.hid hza
        clear hold hres hh hxG
        go_wp2_with (at_builtin; refine wpList_app tyeRp rfl _ _ rfl w.heap.size _ rs [x] rfl (hR.below ((Below.refl _ _).alloc (Nat.le_refl _) _)) ⟨_, 0, none⟩ 1 1 rfl rfl ?d1 ?d2 ?d3 ?_)
        case d1 => first | exact cell_row_at _ _ _ _ rfl | (intro j u h; have e : Enc.cells eRp [x] = rpC x := List.append_nil _; rw [e] at h; exact h)
        case d2 => have := hlen.out; first | omega | (simp only [List.length_singleton]; omega)
        case d3 => have := hbw.size; simp; omega
        intro v' w3 hown3 hg3 hd3
        have hb3 := (hbw.alloc hbw.size _).grown hg3 (by have := hbw.size; simp; omega) (fun r h => by have := (hR.lt r h).1; omega)
        have hO3 := (hO.below ((Below.refl _ _).alloc (Nat.le_refl _) _)).gb hg3 hD.symm.gb
        have hD3 := (dj_app hD.symm (fun q h => Nat.lt_of_lt_of_le (hlo q h) (by have := hza.out; simp; omega)) hd3).symm
        replace hown3 := Lib.hid hown3
        replace hO3 := Lib.hid hO3
        replace hb3 := Lib.hid hb3
        replace hD3 := Lib.hid hD3
        clear hg3 hd3 hO hR hbw lx hD hX c1
        go_wp2_with fail
        go_roundw
        case rel => exact ⟨k + 1, by omega, by go_num, by rw [hold2.out]; exact hO3.out, by rw [hres2.out]; exact hown3.out, hD3.out, hb3.out⟩
        case measure => simp [intOf]; omega
    · have hkL : k = n := by omega
      subst hkL
      rw [hL.out, List.take_length] at hO hR
      have ho20 := oldL_len d ms
      have hr20 := restL_len d ms
      have hOG := oldL_G (d := d) hG.out
      obtain ⟨Ao, co, hvo, _⟩ := hO.sl
      obtain ⟨Ar, cr, hvr, hSr⟩ := hR.sl
      subst hvo hvr
      have HT := Lib.hid (togetherRef_any w.heap.size Ao _ co _ wr hO (fun x hx => (hOG x hx).1) (fun x hx => (hOG x hx).2) rfl (by have := hL.out; omega) hbw.size)
      have hTT2 := Lib.hid (fun zs h => hTT.out zs h)
      have hgk := fun q (h : (Value.slice Ao (oldL d ms).length co).ownBlock = some q) => (hO.lt q h).1
      have hol := Lib.hid (show (oldL d ms).length ≤ 20 ∧ (restL d ms).length ≤ 20 from by have := hL.out; exact ⟨by omega, by omega⟩)
      clear hTT hO hOG ho20 hr20 hSr
      generalize hOL : oldL d ms = os at *
      generalize hRL : restL d ms = rs at *
      obtain ⟨no, hno⟩ : ∃ no, no = os.length := ⟨_, rfl⟩
      obtain ⟨nr, hnr⟩ : ∃ nr, nr = rs.length := ⟨_, rfl⟩
      rw [← hno] at HT hgk hD ⊢
      rw [← hnr] at hR hD ⊢
      replace hno := Lib.hid hno
      replace hnr := Lib.hid hnr
      replace hOL := Lib.hid hOL
      replace hRL := Lib.hid hRL
      go_wp2_with fail
      refine HT.out.mono ?_
      intro e w5 hq
      obtain ⟨A5, m5, c5, zs, rfl, hO5, hm5, hzl5, hT5, hg5⟩ := hq
      have hb5 := hbw.grown hg5 hbw.size hgk
      have hR5 := hR.gb hg5 hD.gb
      obtain ⟨A6, c6, hv6, hS6⟩ := hR5.sl
      injection hv6 with e1 e2 e3
      subst e1 e3
      rw [← e2] at hS6
      have hzz := Lib.hid hzl5
      have hz5 := hg5.size
      have hwr := hbw.size
      have hk5 := fun q (h : (Value.slice A5 m5 c5).ownBlock = some q) => (hO5.lt q h).1
      replace hT5 := Lib.hid hT5
      clear HT hg5 hR hR5 hD hgk hbw e2 hm5 hzl5
      go_wp2_with (at_builtin; refine wpList_appR rfl _ _ rfl wr.heap.size _ _ rfl hO5 _ _ _ rfl hS6 ?c1 ?c2 ?_)
      case c1 => have := hzz.out; have := hol.out; have := hno.out; have := hnr.out; omega
      case c2 => exact hz5
      intro v7 w7 hown7 hg7
      have hb7 := hb5.grown hg7 hb5.size (fun q h => by have := hk5 q h; omega)
      obtain ⟨A8, c8, hv8, hS8⟩ := hown7.sl
      obtain ⟨m8, hm8⟩ : ∃ m8, m8 = (zs ++ rs).length := ⟨_, rfl⟩
      rw [← hm8] at hv8 hS8
      subst hv8
      replace hS8 := Lib.hid hS8
      replace hm8 := Lib.hid hm8
      clear hg7 hown7 hb5 hO5 hS6 hk5
      go_wp2_with fail
      go_ret
      exact ⟨A8, m8, c8, _, rfl, hS8.out, hTT2.out zs hT5.out, hb7⟩
end Go.Proofs.YtilgjgdppfnefaaGreatDoor
