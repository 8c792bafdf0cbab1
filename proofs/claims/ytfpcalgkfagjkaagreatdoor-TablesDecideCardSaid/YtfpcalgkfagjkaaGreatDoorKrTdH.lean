/- Tables: the reference's Differ. -/
import Derived.Test.YtfpcalgkfagjkaaGreatDoorKrGzA
import Derived.Test.YtfpcalgkfagjkaaGreatDoorKrTdG
import Derived.Test.YtfpcalgkfagjkaaGreatDoorKrTbG
import Derived.Test.YtfpcalgkfagjkaaGreatDoorKrSvI
import Derived.Test.YtfpcalgkfagjkaaGreatDoorKrWaysB
set_option linter.unusedVariables false
set_option linter.unusedSimpArgs false
set_option maxRecDepth 100000
namespace Go.Proofs.YtfpcalgkfagjkaaGreatDoor
open Go.RowKit

theorem SlE.gbr {α : Type} {E : Enc α} {w w' : World} {A : Option Addr} {n cap : Nat} {xs : List α} {r : Option Nat} (h : SlE E w A n cap xs) (hg : w.grownBy w' r) (hr : ∀ g off, A = some ⟨g, off, none⟩ → r ≠ some g) : SlE E w' A n cap xs := by
  obtain ⟨h1, h2, h3, h4⟩ := h
  refine ⟨h1, h2, h3, ?_⟩
  rcases h4 with h4 | ⟨g, off, hA, hlt, hc⟩
  · exact .inl h4
  · refine .inr ⟨g, off, hA, Nat.lt_of_lt_of_le hlt hg.size, fun j x hx i v hv => ?_⟩
    rw [World.cell?_of_block (w := w) (hg.block g hlt (by first | exact hr g off hA | exact fun e => hr g off hA e.symm))]
    exact hc j x hx i v hv
theorem own_next {o o' : Option Nat} {gB B4 n : Nat} (h : ∀ g, o = some g → g = gB ∨ B4 ≤ g) (hk : o' = o ∨ o' = some n) (hn : B4 ≤ n) : ∀ g, o' = some g → g = gB ∨ B4 ≤ g := by
  intro g hg
  rcases hk with k | k
  · exact h g (k.symm.trans hg)
  · rw [k] at hg
    injection hg with e
    exact .inr (by omega)
def GivesRd (t y : List En) (w : World) (e : Ending) (w' : World) : Prop := ∃ b is, e = .returned (.tuple #[adA b, .bool is]) ∧ DifP t y 0 b is ∧ Below w.heap.size w w'
theorem cutsW_len : ∀ ts : List En, (cutsW ts).length ≤ 2 + 2 * ts.length := by
  have key : ∀ ts : List En, (ts.flatMap cut1).length ≤ 2 * ts.length := fun ts => by
    induction ts with
    | nil => exact Nat.le_refl _
    | cons x r ih =>
      rw [List.flatMap_cons, List.length_append, List.length_cons]
      have : (cut1 x).length ≤ 2 := by unfold cut1; split <;> simp
      omega
  intro ts
  have := key ts
  unfold cutsW
  simp only [List.length_cons]
  omega
theorem val_144 {m : Nat} (h : Val m) : W144 m := Nat.lt_of_lt_of_le (valT_lt h) (Nat.pow_le_pow_right (by omega) (by omega))
theorem last_all (s : Bool) : (allP s).1.n + 2 ^ freeB (allP s) - 1 = topN s := by
  rw [(allP_n s).1, (allP_n s).2]
  cases s
  · rw [topN_false, s2n_false]; rfl
  · rw [topN_true, s2n_true]; rfl
theorem cuts_next {xs : List En} {k : Nat} {x : En} (hx : xs[k]? = some x) : cutsW (xs.take (k + 1)) = cutsW (xs.take k) ++ cut1 x := by
  have h : xs.take (k + 1) = xs.take k ++ [x] := by rw [List.take_add_one, hx]; rfl
  rw [h, cutsW_app]

set_option maxHeartbeats 8000000 in
theorem differOf_any (A : Option Addr) (n cap : Nat) (t : List En) (A' : Option Addr) (n' cap' : Nat) (y : List En) (w : World) (hS : SlE eEn w A n cap t) (hG : TbG t) (hS' : SlE eEn w A' n' cap' y) (hG' : TbG y) :
    Calls Tryz.prog 19 #[.slice A n cap, .slice A' n' cap'] w (GivesRd t y w) := by
  have hm1 : n ≤ 500 := by have h1 := hS.1; have h2 := hG.2.1; omega
  have hm2 : n' ≤ 500 := by have h1 := hS'.1; have h2 := hG'.2.1; omega
  have hRt := Lib.hid (fun x hx => (hG.1 x hx).1)
  have hRy := Lib.hid (fun x hx => (hG'.1 x hx).1)
  have hNt := Lib.hid (show ∀ x ∈ t, x.nm ≠ [] from fun x hx e => by have h := (hG.1 x hx).2; rw [e] at h; exact absurd h (by decide))
  have hNy := Lib.hid (show ∀ x ∈ y, x.nm ≠ [] from fun x hx e => by have h := (hG'.1 x hx).2; rw [e] at h; exact absurd h (by decide))
  have hDt := Lib.hid hG.d
  have hDy := Lib.hid hG'.d
  clear hG hG'
  have hln := Lib.hid (show (t ++ y).length = n + n' by rw [List.length_append, hS.1, hS'.1])
  replace hS := Lib.hid hS
  replace hS' := Lib.hid hS'
  have hZ := Blk.new w (adC ⟨false, 0, 0⟩) 30
  have hbw : Below w.heap.size w (w.alloc (.cells (adC ⟨false, 0, 0⟩).toArray 30)) := (Below.refl _ _).alloc (Nat.le_refl _) _
  have Q0 := fun w' => run_build (P := Tryz.prog) w' 30 #[] (adC ⟨false, 0, 0⟩).toArray (by kernel_rfl)
  have Q1 := fun w' => run_build (P := Tryz.prog) w' 30 #[(0, .bool true)] (adC ⟨true, 0, 0⟩).toArray (by kernel_rfl)
  have HO : ∀ s, Hid (∀ W, Calls Tryz.prog 44 #[adA ⟨s, 0, 0⟩] W (GivesV (wA (s2n s)) W)) := fun s => Lib.hid (fun W => by have h := of_w ⟨s, 0, 0⟩ W (first_R s).1.1; rw [(first_R s).2] at h; exact h)
  have HF := HO false
  have HT := HO true
  clear HO
  obtain ⟨W0, hW0⟩ : ∃ W, W = s2n false := ⟨_, rfl⟩
  obtain ⟨W1, hW1⟩ : ∃ W, W = s2n true := ⟨_, rfl⟩
  rw [← hW0] at HF
  rw [← hW1] at HT
  have hst := Lib.hid (show [W0, W1] = cutsW ((t ++ y).take 0) by rw [hW0, hW1]; rfl)
  clear hW0 hW1
  go_enter Tryz.func19, Tryz.ntmps19
  go_wp2_with fail
  refine (HF.out _).mono ?_
  rintro e w1 ⟨rfl, hv1⟩
  replace hZ := hZ.below hv1
  replace hbw := hbw.trans (hv1.mono hbw.size)
  clear hv1 HF
  go_wp2_with fail
  refine (HT.out _).mono ?_
  rintro e w2 ⟨rfl, hv1⟩
  replace hZ := hZ.below hv1
  replace hbw := hbw.trans (hv1.mono hbw.size)
  clear hv1 HT
  have hAt := own_twoW (w := w2) W0 W1
  have hZl := hZ.lt
  replace hZ := hZ.alloc (.cells (digN W0 ++ digN W1).toArray 77)
  replace hbw := hbw.alloc hbw.size (.cells (digN W0 ++ digN W1).toArray 77)
  have hs1 := run_bsW2 W0 W1 w2
  go_upto_region 2 with fail
  clear hs1 Q1
  generalize hw3 : w2.alloc (.cells (digN W0 ++ digN W1).toArray 77) = w3 at *
  have hz3 := Lib.hid (show w3.heap.size = w2.heap.size + 1 by rw [← hw3]; simp)
  clear hw3
  generalize w2.heap.size = gB at *
  have hz3' := hbw.size
  have hQ := Blk.new w3 [.slice A n cap, .slice A' n' cap'] 26
  have hbQ : Below w3.heap.size w3 (w3.alloc (.cells #[Value.slice A n cap, .slice A' n' cap'] 26)) := (Below.refl _ _).alloc (Nat.le_refl _) _
  have hsQ := Lib.hid (show (w3.alloc (.cells #[Value.slice A n cap, .slice A' n' cap'] 26)).heap.size = w3.heap.size + 1 by simp)
  have HC := Lib.hid (concatEn_any w3.heap.size n cap n' cap' A A' t y _ hQ ((hS.out.below hbw).below hbQ) ((hS'.out.below hbw).below hbQ) (by omega) (by omega))
  replace hAt := hAt.below hbQ
  replace hZ := hZ.below hbQ
  replace hbw := hbw.trans (hbQ.mono hz3')
  clear hQ hbQ
  go_wp2_with fail
  refine HC.out.mono ?_
  rintro e w4 ⟨⟨vx, rfl, hX⟩, hv1⟩
  replace hAt := hAt.below hv1
  replace hZ := hZ.below hv1
  replace hbw := hbw.trans (hv1.mono hbw.size)
  have hsz4 := hv1.size
  rw [hsQ.out] at hsz4 hX
  have hz3o := hz3.out
  have hw4 : gB + 1 ≤ w4.heap.size := by omega
  clear hv1 HC
  have hXl := hX.lt
  obtain ⟨Ax, cx, rfl, hXs⟩ := hX.sl
  have hXb := Lib.hid (show ∀ g off, Ax = some ⟨g, off, none⟩ → gB < g ∧ g < w4.heap.size from fun g off hA => by
    have h := hXl g (by rw [hA]; rfl)
    omega)
  clear hX hXl hz3o
  obtain ⟨xs, hxs⟩ : ∃ xs, xs = t ++ y := ⟨_, rfl⟩
  rw [← hxs] at hXs hln hst ⊢
  obtain ⟨N, hN⟩ : ∃ N, N = xs.length := ⟨_, rfl⟩
  have hNb : N ≤ 1000 := by rw [hN, hln.out]; omega
  rw [← hN] at hXs ⊢
  replace hN := Lib.hid hN
  have hRx := Lib.hid (show ∀ x ∈ xs, x.p.R from fun x hx => by
    rw [hxs] at hx
    exact (List.mem_append.1 hx).elim (hRt.out x) (hRy.out x))
  replace hxs := Lib.hid hxs
  replace hXs := Lib.hid hXs
  have hO0 := Lib.hid (show ∀ g, (Value.slice (some ⟨gB, 0, none⟩) 2 2).ownBlock = some g → g = gB ∨ w4.heap.size ≤ g from fun g h => by injection h with e; exact .inl e.symm)
  clear hsz4 hsQ hz3'
  have hw4' : gB ≤ w4.heap.size := by omega
  go_wp2_with fail
  go_loopw [6, 27] (fun v6 v27 wr => ∃ (k : Nat) (out : List Nat), k ≤ N ∧ v27 = .int .i64 k ∧ Hid (out = cutsW (xs.take k)) ∧ OwnE eW 77 gB wr v6 out ∧ Hid (SlE eEn wr Ax N cx xs) ∧ Hid (∀ g, v6.ownBlock = some g → g = gB ∨ w4.heap.size ≤ g) ∧ Below gB w4 wr) (fun _ v27 _ => N - (intOf v27).toNat)
  case atStart => exact ⟨0, [W0, W1], by omega, rfl, hst, hAt, hXs, hO0, Below.refl _ _⟩
  case round =>
    clear hAt hXs hO0 hst
    obtain ⟨k, out, hk, rfl, hout, hown, hX, hO, hb4⟩ := hrel
    have hlo := Lib.hid (show out.length ≤ 4000 by
      rw [hout.out]
      have h1 := cutsW_len (xs.take k)
      have h2 : (xs.take k).length ≤ k := by rw [List.length_take]; omega
      omega)
    by_cases hlt : k < N
    · obtain ⟨x, hx⟩ : ∃ x, xs[k]? = some x := ⟨xs[k]'(by have := hN.out; omega), List.getElem?_eq_getElem _⟩
      obtain ⟨g0, off, rfl, _, _⟩ := hX.out.at' hlt
      have hld := SlE.ld rowEn hX.out hx
      replace hld : (ldT 37 (.pointer (some ⟨g0, off + k * 5, none⟩))).run Tryz.prog wr = .ok (.value (enA x)) wr := hld
      have hxR := hRx.out x (List.mem_of_getElem? hx)
      have hlt' : (k : Int) < N := by omega
      have hnext := Lib.hid (show out ++ cut1 x = cutsW (xs.take (k + 1)) by rw [cuts_next hx, hout.out])
      clear hout hx
      have S1 := stT_new rowEn (te := 37) wr wr.heap.size rfl [.bool false, .int .u64 0, .int .u64 0, .int .i64 0, .string ⟨#[]⟩] (enC x) rfl rfl (enC_one x)
      have hC := Blk.new wr (enC x) 37
      have hob := Lib.hid (fun g (h : u6.ownBlock = some g) => (hown.lt g h).2)
      go_upto_region 5 with fail
      clear S1 hld
      replace hown := hown.alloc' (.cells (enC x).toArray 37)
      have hbn : Below wr.heap.size wr (wr.alloc (.cells (enC x).toArray 37)) := (Below.refl _ _).alloc (Nat.le_refl _) _
      replace hX := Lib.hid (hX.out.below hbn)
      replace hb4 := hb4.trans (hbn.mono (Nat.le_trans hw4' hb4.size))
      clear hbn
      generalize wr.alloc (.cells (enC x).toArray 37) = wa at *
      generalize wr.heap.size = gC at *
      have l1 := hC.ldAt rowAd 0 (adC x.p.1) [.int .i64 x.p.2, .string ⟨x.nm.toArray⟩] rfl rfl
      have HO1 := Lib.hid (fun W => of_w x.p.1 W hxR.1.1)
      obtain ⟨Sx, hSx⟩ : ∃ S, S = x.p.1.n := ⟨_, rfl⟩
      obtain ⟨Lx, hLx⟩ : ∃ S, S = x.p.1.n + 2 ^ freeB x.p - 1 := ⟨_, rfl⟩
      obtain ⟨Tx, hTx⟩ : ∃ S, S = topN x.p.1.s := ⟨_, rfl⟩
      have HL1 := Lib.hid (fun W => lastOf_w x.p W hxR)
      have HLT := Lib.hid (fun W => by have h := lastOf_w (allP x.p.1.s) W (allP_R _); rw [last_all] at h; exact h)
      have hcut := Lib.hid (show cut1 x = Sx :: (if Lx = Tx then [] else [Lx + 1]) by rw [hSx, hLx, hTx]; rfl)
      have hL144 := Lib.hid (show Lx < 2 ^ 144 ∧ Tx < 2 ^ 144 by
        rw [hLx, hTx]
        have h1 := rg_fam (rgP_R hxR)
        have h2 := rgP_n hxR
        have h3 := (rgP_R hxR).2.2.2
        have e1 : (rgP x.p).1 = x.p.1 := rfl
        rw [h2, e1] at h1 h3
        exact ⟨val_144 (valT_fam (Nat.le_trans h1.1 h3) h1.2), val_144 (valT_fam (s2n_top _) (Nat.le_refl _))⟩)
      rw [← hSx] at HO1
      rw [← hLx] at HL1
      rw [← hTx] at HLT
      clear hSx hLx hTx hxR
      go_wp2_with fail
      refine (HO1.out _).mono ?_
      rintro e wb ⟨rfl, hv1⟩
      replace hown := hown.below hv1
      replace hC := hC.below hv1
      replace hX := Lib.hid (hX.out.below hv1)
      replace hb4 := hb4.trans (hv1.mono (Nat.le_trans hw4' hb4.size))
      clear hv1 HO1 l1
      have hs2 := run_bsW Sx wb
      go_wp2_with (at_builtin; refine wpList_app tyeW rfl _ _ rfl gB _ _ [Sx] rfl (hown.alloc' _) ⟨_, 0, none⟩ 1 1 rfl rfl ?c1 ?c2 ?c3 ?_)
      case c1 => exact cell_row_at _ _ _ _ rfl
      case c2 => have := hlo.out; simp only [List.length_singleton]; omega
      case c3 => have := hb4.size; simp; omega
      intro v3 x3 hown3 hg3 hk3
      have hlt3 := fun k h => (hown.lt k h).1
      have hX3 := Lib.hid ((SlE.below hX.out ((Below.refl _ _).alloc (Nat.le_refl _) _)).gbr hg3 (fun g off hA e => by have h1 := hXb.out g off hA; have h2 := hO.out g e; omega))
      have hC3 := (hC.alloc (.cells (digN Sx).toArray 77))
      replace hC3 : Blk x3 gC (enC x) 37 := (hg3.block gC hC3.lt (by first | exact (fun e => by have := hob.out gC e; omega) | exact (fun e => by have := hob.out gC e.symm; omega))).trans hC3
      replace hO := Lib.hid (own_next hO.out hk3 (by have := hb4.size; simp; omega))
      replace hb4 := (hb4.alloc (Nat.le_trans hw4' hb4.size) _).grown hg3 (by have := hb4.size; simp; omega) hlt3
      clear hg3 hlt3 hk3 hown hX
      clear hC hs2 hob
      have hlo2 := Lib.hid (show (out ++ [Sx]).length ≤ 4001 by have := hlo.out; simp; omega)
      have l2 := hC3.ldAt rowPf 0 (pfC x.p) [.string ⟨x.nm.toArray⟩] rfl rfl
      go_wp2_with fail
      refine (HL1.out _).mono ?_
      rintro e wc ⟨rfl, hv1⟩
      replace hown3 := hown3.below hv1
      replace hC3 := hC3.below hv1
      replace hX3 := Lib.hid (hX3.out.below hv1)
      replace hb4 := hb4.trans (hv1.mono (Nat.le_trans hw4' hb4.size))
      clear hv1 HL1 l2
      have S2 := stT_new rowW (te := 77) wc wc.heap.size rfl [.int .i64 0, .int .i64 0, .int .i64 0, .int .i64 0, .int .i64 0, .int .i64 0, .int .i64 0, .int .i64 0, .int .i64 0] (digN Lx) rfl rfl (digN_one Lx)
      have hE := Blk.new wc (digN Lx) 77
      go_upto_region 7 with fail
      clear S2
      have hown := hown3.alloc' (.cells (digN Lx).toArray 77)
      have hbn : Below wc.heap.size wc (wc.alloc (.cells (digN Lx).toArray 77)) := (Below.refl _ _).alloc (Nat.le_refl _) _
      have hX := Lib.hid (hX3.out.below hbn)
      have hC := hC3.below hbn
      replace hb4 := hb4.trans (hbn.mono (Nat.le_trans hw4' hb4.size))
      clear hbn hX3 hC3 hown3 hlo
      generalize wc.alloc (.cells (digN Lx).toArray 77) = wd at *
      generalize wc.heap.size = gE at *
      have QA := fun w' => run_build (P := Tryz.prog) w' 30 #[(0, .bool x.p.1.s)] (adC ⟨x.p.1.s, 0, 0⟩).toArray (by kernel_rfl)
      have QP := fun w' => run_build (P := Tryz.prog) w' 35 #[(0, adA ⟨x.p.1.s, 0, 0⟩)] (pfC (allP x.p.1.s)).toArray (by kernel_rfl)
      have hw4 := hw4'
      refine wb_begin ([gC, gE]) [] (by kernel_rfl) (fun u0 hb0' hz0' => ?_)
      replace hown := hown.below hb0'
      replace hX := Lib.hid (hX.out.below hb0')
      replace hE := hE.below hb0'
      replace hC := hC.below hb0'
      replace hb4 := hb4.trans (hb0'.mono (Nat.le_trans hw4 hb4.size))
      clear hb0' hz0'
      refine wb_takeZ 0 (some 41) (v := ?_) ?_ ?_; rotate_left; · (intro u hu; have kx := hC.kb hu (by simp); have ke := hE.kb hu (by simp); have k0 := kx.cell (i := 0) (v := .bool x.p.1.s) rfl; have k1 := ke.ldAt rowW 0 (digN Lx) [] rfl rfl; clear kx ke; go_simp; try with_reducible rfl)
      try simp only [Act.put, gzD, gzE, gzF]
      refine wb_pureZ 1 (some 42) (v := ?_) ?_ ?_; rotate_left; · (intro u; go_simp; try with_reducible rfl)
      try simp only [Act.put, gzD, gzE, gzF]
      refine wb_pureZ 2 (some 43) (v := ?_) ?_ ?_; rotate_left; · (intro u; go_simp; try with_reducible rfl)
      try simp only [Act.put, gzD, gzE, gzF]
      refine wb_pureZ 3 (some 44) (v := ?_) ?_ ?_; rotate_left; · (intro u; go_simp; try with_reducible rfl)
      try simp only [Act.put, gzD, gzE, gzF]
      refine wb_takeZ 4 (some 45) (v := ?_) ?_ ?_; rotate_left; · (intro u hu; have kx := hC.kb hu (by simp); have ke := hE.kb hu (by simp); have k0 := kx.cell (i := 0) (v := .bool x.p.1.s) rfl; have k1 := ke.ldAt rowW 0 (digN Lx) [] rfl rfl; clear kx ke; go_simp; try with_reducible rfl)
      try simp only [Act.put, gzD, gzE, gzF]
      refine wb_pureZ 5 (some 46) (v := ?_) ?_ ?_; rotate_left; · (intro u; go_simp; try with_reducible rfl)
      try simp only [Act.put, gzD, gzE, gzF]
      refine wb_pureZ 6 (some 47) (v := ?_) ?_ ?_; rotate_left; · (intro u; go_simp; try with_reducible rfl)
      try simp only [Act.put, gzD, gzE, gzF]
      refine wb_oneZ 7 (fun K hK => ?_)
      go_simp
      refine (HLT.out _).mono ?_
      rintro e u7 ⟨rfl, hv1⟩
      refine hK _ _ (Kb.below hv1 (by intro q hq; simp only [List.mem_cons, List.not_mem_nil, or_false] at hq; rcases hq with rfl | rfl; exact hC.lt; exact hE.lt)) ?_
      replace hown := hown.below hv1
      replace hX := Lib.hid (hX.out.below hv1)
      replace hE := hE.below hv1
      replace hC := hC.below hv1
      replace hb4 := hb4.trans (hv1.mono (Nat.le_trans hw4 hb4.size))
      clear hK K hv1
      try simp only [Act.put, gzD, gzE, gzF]
      refine wb_pureZ 8 (some 49) (v := ?_) ?_ ?_; rotate_left; · (intro u; go_simp; try with_reducible rfl)
      try simp only [Act.put, gzD, gzE, gzF]
      refine wb_done (by kernel_rfl) ?_ _
      skip
      rw [eqN_iff hL144.out.1 hL144.out.2]
      clear QA QP HLT
      by_cases hLT : Lx = Tx
      · have hd : decide (Lx = Tx) = true := decide_eq_true hLT
        have hfin := Lib.hid (show out ++ [Sx] = cutsW (xs.take (k + 1)) by rw [← hnext.out, hcut.out, if_pos hLT])
        rw [hd]
        clear hd hLT
        go_wp2_with fail
        go_roundw
        case rel => exact ⟨k + 1, _, by omega, by go_num, hfin, hown, hX, hO, hb4⟩
        case measure => simp [intOf]; omega
      · have hd : decide (Lx = Tx) = false := decide_eq_false hLT
        have hfin := Lib.hid (show out ++ [Sx, Lx + 1] = cutsW (xs.take (k + 1)) by rw [← hnext.out, hcut.out, if_neg hLT])
        rw [hd]
        clear hd hLT
        have hlo := hlo2
        have l3 := hE.ldAt rowW 0 (digN Lx) [] rfl rfl
        obtain ⟨Ly, hLy⟩ : ∃ L, L = Lx + 1 := ⟨_, rfl⟩
        have HP := Lib.hid (fun W => plus_any Lx Ly 1 W (by omega) (by omega) (by omega))
        rw [← hLy] at hfin
        clear hLy
        go_wp2_with fail
        refine (HP.out _).mono ?_
        rintro e we ⟨rfl, hv1⟩
        replace hown := hown.below hv1
        replace hX := Lib.hid (hX.out.below hv1)
        replace hb4 := hb4.trans (hv1.mono (Nat.le_trans hw4' hb4.size))
        clear hv1 HP l3 hC hE
        have hs2 := run_bsW Ly we
        go_wp2_with (at_builtin; refine wpList_app tyeW rfl _ _ rfl gB _ _ [Ly] rfl (hown.alloc' _) ⟨_, 0, none⟩ 1 1 rfl rfl ?c1 ?c2 ?c3 ?_)
        case c1 => exact cell_row_at _ _ _ _ rfl
        case c2 => have := hlo.out; simp only [List.length_singleton]; omega
        case c3 => have := hb4.size; simp; omega
        intro v3 x3 hown3 hg3 hk3
        have hlt3 := fun k h => (hown.lt k h).1
        have hX3 := Lib.hid ((SlE.below hX.out ((Below.refl _ _).alloc (Nat.le_refl _) _)).gbr hg3 (fun g off hA e => by have h1 := hXb.out g off hA; have h2 := hO.out g e; omega))
        replace hO := Lib.hid (own_next hO.out hk3 (by have := hb4.size; simp; omega))
        replace hb4 := (hb4.alloc (Nat.le_trans hw4' hb4.size) _).grown hg3 (by have := hb4.size; simp; omega) hlt3
        clear hg3 hlt3 hk3 hown hX
        clear hs2
        go_wp2_with fail
        go_roundw
        case rel => exact ⟨k + 1, _, by omega, by go_num, hfin, hown3, hX3, hO, hb4⟩
        case measure => simp [intOf]; omega
    · have hkN : k = N := by omega
      have hfin := Lib.hid (show out = cutsW (t ++ y) by rw [hout.out, hkN, hN.out, List.take_length, hxs.out])
      have hnlt : ¬ (k : Int) < N := by omega
      have hU := Lib.hid (show ∀ m ∈ out, W144 m from fun m hm => by
        rw [hfin.out, ← hxs.out] at hm
        exact val_144 (cutsW_val hRx.out hm))
      have hne := Lib.hid (show out ≠ [] from fun e => by have h := hfin.out; rw [e] at h; cases h)
      have HS := Lib.hid (sortW_any gB u6 out wr hown hU.out hne.out (Nat.le_trans hw4' hb4.size) (by have := hlo.out; omega))
      clear hX hO hout hown hU hne
      go_wp2_with fail
      refine HS.out.mono ?_
      rintro e w5 ⟨rfl, qs, hp, hs, hown, hb5⟩
      replace hp := Lib.hid (show qs.Perm (cutsW (t ++ y)) by rw [← hfin.out]; exact hp)
      have hlq := Lib.hid (show qs.length ≤ 4000 by rw [hp.out.length_eq, ← hfin.out]; exact hlo.out)
      replace hs := Lib.hid hs
      replace hb4 := hb4.trans hb5
      have hZ5 : Blk w5 w.heap.size (adC ⟨false, 0, 0⟩) 30 := (hb4.block _ hZl).trans hZ
      have hbw5 : Below w.heap.size w w5 := hbw.trans (hb4.mono (by omega))
      clear hb5 HS hfin hb4 hZ hbw hlo
      obtain ⟨Aq, cq, rfl, hq⟩ := hown.sl
      obtain ⟨M, hM⟩ : ∃ M, M = qs.length := ⟨_, rfl⟩
      have hMb : M ≤ 4000 := by rw [hM]; exact hlq.out
      rw [← hM] at hq ⊢
      replace hM := Lib.hid hM
      replace hq := Lib.hid hq
      clear hown hlq
      have hZ0 := hZ5
      go_wp2_with fail
      go_loopw [60] (fun v60 wr => ∃ j : Nat, j ≤ M ∧ v60 = .int .i64 j ∧ Hid (∀ i c, i < j → qs[i]? = some c → lookT t c = lookT y c) ∧ Below w5.heap.size w5 wr) (fun v60 _ => M - (intOf v60).toNat)
      case atStart => exact ⟨0, by omega, rfl, Lib.hid (fun i c h _ => absurd h (Nat.not_lt_zero _)), Below.refl _ _⟩
      case round =>
        obtain ⟨j, hj, rfl, hI, hb5⟩ := hrel
        replace hZ5 := hZ5.below hb5
        replace hbw5 := hbw5.trans (hb5.mono hbw5.size)
        by_cases hlt : j < M
        · obtain ⟨m, hm⟩ : ∃ m, qs[j]? = some m := ⟨qs[j]'(by have := hM.out; omega), List.getElem?_eq_getElem _⟩
          obtain ⟨g0, off, rfl, _, _⟩ := hq.out.at' hlt
          have hld := SlE.ld rowW (hq.out.below hb5) hm
          replace hld : (ldT 77 (.pointer (some ⟨g0, off + j * 9, none⟩))).run Tryz.prog wr = .ok (.value (wA m)) wr := hld
          have hmv : Val m := cutsW_val (fun x hx => (List.mem_append.1 hx).elim (hRt.out x) (hRy.out x)) (hp.out.mem_iff.1 (List.mem_of_getElem? hm))
          have hlt' : (j : Int) < M := by omega
          have S1 := stT_new rowW (te := 77) wr wr.heap.size rfl [.int .i64 0, .int .i64 0, .int .i64 0, .int .i64 0, .int .i64 0, .int .i64 0, .int .i64 0, .int .i64 0, .int .i64 0] (digN m) rfl rfl (digN_one m)
          have hE := Blk.new wr (digN m) 77
          have HA := Lib.hid (fun W => addr_w m W (valT_lt hmv))
          have haR := Lib.hid (show (adOf m).R from adOf_R hmv)
          have han := Lib.hid (show (adOf m).n = m from adOf_n (valT_lt hmv))
          obtain ⟨a, ha⟩ : ∃ a, a = adOf m := ⟨_, rfl⟩
          rw [← ha] at HA haR han
          replace ha := Lib.hid ha
          replace hmv := Lib.hid hmv
          go_upto_region 14 with fail
          clear S1 hld
          have hbn : Below wr.heap.size wr (wr.alloc (.cells (digN m).toArray 77)) := (Below.refl _ _).alloc (Nat.le_refl _) _
          replace hZ5 := hZ5.below hbn
          replace hb5 := hb5.trans (hbn.mono hb5.size)
          replace hbw5 := hbw5.trans (hbn.mono hbw5.size)
          clear hbn
          generalize wr.alloc (.cells (digN m).toArray 77) = wa at *
          have k1 := hE.ldAt rowW 0 (digN m) [] rfl rfl
          go_wp2_with fail
          refine (HA.out _).mono ?_
          rintro e wb ⟨rfl, hv1⟩
          replace hZ5 := hZ5.below hv1
          replace hb5 := hb5.trans (hv1.mono hb5.size)
          replace hbw5 := hbw5.trans (hv1.mono hbw5.size)
          clear hv1 HA k1 hE
          have S2 := stT_new rowAd (te := 30) wb wb.heap.size rfl [.bool false, .int .u64 0, .int .u64 0] (adC a) rfl rfl (adC_one a)
          have hC := Blk.new wb (adC a) 30
          go_upto_region 15 with fail
          clear S2
          have hbn : Below wb.heap.size wb (wb.alloc (.cells (adC a).toArray 30)) := (Below.refl _ _).alloc (Nat.le_refl _) _
          replace hZ5 := hZ5.below hbn
          replace hb5 := hb5.trans (hbn.mono hb5.size)
          replace hbw5 := hbw5.trans (hbn.mono hbw5.size)
          clear hbn
          generalize wb.alloc (.cells (adC a).toArray 30) = wc at *
          have HL1 := Lib.hid (fun W (hW : Below w.heap.size w W) => lookOf_any A n cap t a W (hS.out.below hW) (by omega) hDt.out haR.out)
          have HL2 := Lib.hid (fun W (hW : Below w.heap.size w W) => lookOf_any A' n' cap' y a W (hS'.out.below hW) (by omega) hDy.out haR.out)
          rw [hasT_look hRt.out hNt.out, han.out] at HL1
          rw [hasT_look hRy.out hNy.out, han.out] at HL2
          obtain ⟨s1, hs1⟩ : ∃ s, s = lookT t m := ⟨_, rfl⟩
          obtain ⟨s2, hs2⟩ : ∃ s, s = lookT y m := ⟨_, rfl⟩
          rw [← hs1] at HL1
          rw [← hs2] at HL2
          replace hs1 := Lib.hid hs1
          replace hs2 := Lib.hid hs2
          obtain ⟨b1, hb1⟩ : ∃ b, b = !s1.isEmpty := ⟨_, rfl⟩
          obtain ⟨b2, hb2⟩ : ∃ b, b = !s2.isEmpty := ⟨_, rfl⟩
          rw [← hb1] at HL1
          rw [← hb2] at HL2
          replace hb1 := Lib.hid hb1
          replace hb2 := Lib.hid hb2
          have k1 := hC.ldAt rowAd 0 (adC a) [] rfl rfl
          go_wp2_with fail
          refine (HL1.out _ hbw5).mono ?_
          rintro e wd ⟨rfl, hv1⟩
          replace hC := hC.below hv1
          replace hZ5 := hZ5.below hv1
          replace hb5 := hb5.trans (hv1.mono hb5.size)
          replace hbw5 := hbw5.trans (hv1.mono hbw5.size)
          clear hv1 HL1 k1
          have k1 := hC.ldAt rowAd 0 (adC a) [] rfl rfl
          go_wp2_with fail
          refine (HL2.out _ hbw5).mono ?_
          rintro e we ⟨rfl, hv1⟩
          replace hC := hC.below hv1
          replace hZ5 := hZ5.below hv1
          replace hb5 := hb5.trans (hv1.mono hb5.size)
          replace hbw5 := hbw5.trans (hv1.mono hbw5.size)
          clear hv1 HL2 k1
          replace hm := Lib.hid hm
          by_cases hse : s1 = s2
          · have e1 : (s1 == s2) = true := by simp [hse]
            have eb : b2 = b1 := by rw [hb1.out, hb2.out, hse]
            have hI2 := Lib.hid (show ∀ i c, i < j + 1 → qs[i]? = some c → lookT t c = lookT y c from fun i c hi hc => by
              rcases Nat.lt_succ_iff_lt_or_eq.1 hi with h | rfl
              · exact hI.out i c h hc
              · rw [hm.out] at hc
                obtain rfl := Option.some.inj hc
                rw [← hs1.out, ← hs2.out]; exact hse)
            subst eb
            clear hI hse hb1 hb2 hC
            cases b2
            · go_wp2_with fail
              go_roundw
              case rel => exact ⟨j + 1, by omega, by go_num, hI2, hb5⟩
              case measure => simp [intOf]; omega
            · go_wp2_with fail
              go_roundw
              case rel => exact ⟨j + 1, by omega, by go_num, hI2, hb5⟩
              case measure => simp [intOf]; omega
          · have e1 : (s1 == s2) = false := by simp [hse]
            have S8 := stT_row rowAd hZ5 rfl (adC_len a) (adC_one a)
            have k1 := hC.ldAt rowAd 0 (adC a) [] rfl rfl
            have hfin := Lib.hid (show DifP t y 0 a true by
              rw [ha.out]
              exact difP_first hRt.out hRy.out hp.out hs.out hm.out hI.out (by rw [← hs1.out, ← hs2.out]; exact hse))
            replace hZ5 := hZ5.row (adC a)
            replace hbw5 := below_row hbw5 (Nat.le_refl _) (adC a).toArray
            clear hI hse hb5 hb1 hb2 hC
            cases b1 <;> cases b2 <;> (go_wp2_with fail; (try simp only [Exit.inBlock, Exit.then]); refine bodyPost_ret (v := .tuple #[adA a, .bool true]) (results_cell_tmp_row rowAd rfl _ _ w.heap.size _ _ _ rfl rfl hZ5 rfl) rfl ?_; exact ⟨a, true, rfl, hfin.out, hbw5⟩)
        · have hjM : j = M := by omega
          have hfin := Lib.hid (show DifP t y 0 ⟨false, 0, 0⟩ false from difP_none hRt.out hRy.out hp.out hs.out (fun i c hi hc => hI.out i c (by have := hM.out; omega) hc))
          have hnlt : ¬ (j : Int) < M := by omega
          have S1 : (stT 30 (.pointer (some ⟨w.heap.size, 0, none⟩)) (.agg #[.bool false, .int .u64 0, .int .u64 0])).run Tryz.prog wr = .ok .skip (wr.setRow w.heap.size #[.bool false, .int .u64 0, .int .u64 0]) := stT_row rowAd hZ5 rfl (adC_len ⟨false, 0, 0⟩) (adC_one ⟨false, 0, 0⟩)
          replace hZ5 := hZ5.row (adC ⟨false, 0, 0⟩)
          replace hbw5 := below_row hbw5 (Nat.le_refl _) (adC ⟨false, 0, 0⟩).toArray
          clear hI hb5
          go_wp2_with fail
          (try simp only [Exit.inBlock, Exit.then])
          refine bodyPost_ret (v := .tuple #[adA ⟨false, 0, 0⟩, .bool false]) (results_cell_tmp_row rowAd rfl _ _ w.heap.size _ _ _ rfl rfl hZ5 rfl) rfl ?_
          exact ⟨⟨false, 0, 0⟩, false, rfl, hfin.out, hbw5⟩
end Go.Proofs.YtfpcalgkfagjkaaGreatDoor
