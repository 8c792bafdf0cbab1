/- Reports out of a stream: one that is made, whatever the order. -/
import Derived.Test.YtfiocnjogbpgoaaGreatDoorKkThC
import Derived.Test.YtfiocnjogbpgoaaGreatDoorKkRqI
namespace Go.Proofs.YtfiocnjogbpgoaaGreatDoor
open Go.RowKit
set_option linter.unusedVariables false
set_option linter.unusedSimpArgs false

/-- A struct of six parts is built, as one step. -/
def bd6 (t : TypeId) (x0 x1 x2 x3 x4 x5 : Value) : Sem Next := do
  let v ← Instr.build t #[(0, x0), (1, x1), (2, x2), (3, x3), (4, x4), (5, x5)]
  pure (.value v)
section
variable (ρ : Operand → Value) (dst : Option Tmp) (x0 x1 x2 x3 x4 x5 : Operand) (ty : TypeId) (pos : String) (after : Array Edge) (guard : Option (Nat × Bool))
@[go_sem ↓ high] theorem execOp_bdRp : execOp ρ ⟨dst, .build 56 #[(0, x0), (1, x1), (2, x2), (3, x3), (4, x4), (5, x5)], ty, pos, after, guard⟩ = bd6 56 (ρ x0) (ρ x1) (ρ x2) (ρ x3) (ρ x4) (ρ x5) := by
  simp only [execOp, bd6, List.map_toArray, List.map_cons, List.map_nil]
@[go_sem high] theorem execOp_bdRp' : execOp ρ ⟨dst, .build 56 #[(0, x0), (1, x1), (2, x2), (3, x3), (4, x4), (5, x5)], ty, pos, after, guard⟩ = bd6 56 (ρ x0) (ρ x1) (ρ x2) (ρ x3) (ρ x4) (ρ x5) := by
  simp only [execOp, bd6, List.map_toArray, List.map_cons, List.map_nil]
end
@[go_sem] theorem run_bdRp (l : List UInt8) (h : Int) (o : Bool) (x : Fl) (p q : Int) (w : World) : (bd6 56 (.string ⟨l.toArray⟩) (.int .i64 h) (.bool o) (.agg (flC x).toArray) (.int .i64 p) (.int .i64 q)).run Tryz.prog w = .ok (.value (.agg (rpC ⟨l, h, o, x, p, q⟩).toArray)) w := by
  have h0 : Tryz.prog.built 56 [(0, .string ⟨l.toArray⟩), (1, .int .i64 h), (2, .bool o), (3, .agg (flC x).toArray), (4, .int .i64 p), (5, .int .i64 q)] = some (rpC ⟨l, h, o, x, p, q⟩).toArray := by kernel_rfl
  unfold bd6
  simp only [Sem.run_bind, run_build (P := Tryz.prog) w 56 #[(0, .string ⟨l.toArray⟩), (1, .int .i64 h), (2, .bool o), (3, .agg (flC x).toArray), (4, .int .i64 p), (5, .int .i64 q)] _ h0, Result.andThen_ok, Sem.run_pure]

/-- A slice of one report is built, as one step. -/
def bsR (t : TypeId) (x : Value) : Sem Next := do
  let v ← Instr.buildSlice t 1 #[(0, x)]
  pure (.value v)
section
variable (ρ : Operand → Value) (dst : Option Tmp) (x : Operand) (ty : TypeId) (pos : String) (after : Array Edge) (guard : Option (Nat × Bool))
@[go_sem ↓ high] theorem execOp_bsRp : execOp ρ ⟨dst, .buildSlice 49 1 #[(0, x)], ty, pos, after, guard⟩ = bsR 49 (ρ x) := by
  simp only [execOp, bsR, List.map_toArray, List.map_cons, List.map_nil]
@[go_sem high] theorem execOp_bsRp' : execOp ρ ⟨dst, .buildSlice 49 1 #[(0, x)], ty, pos, after, guard⟩ = bsR 49 (ρ x) := by
  simp only [execOp, bsR, List.map_toArray, List.map_cons, List.map_nil]
end
@[go_sem] theorem run_bsRp (x : Rp) (w : World) : (bsR 49 (.agg (rpC x).toArray)).run Tryz.prog w = .ok (.value (.slice (some ⟨w.heap.size, 0, none⟩) 1 1)) (w.alloc (.cells (rpC x).toArray 56)) := by
  obtain ⟨i0, hi0, hz0, hz1, hz2⟩ := info_parts infoRp
  have hf : Instr.fill (fun i => some (i * 14, 14)) ((Array.range (1 * 14)).map (zRp.cells[· % zRp.cells.size]!)) [(0, .agg (rpC x).toArray)] = some (rpC x).toArray := by kernel_rfl
  unfold bsR
  simp only [Sem.run_bind, run_buildSlice (P := Tryz.prog) w 49 56 1 #[(0, .agg (rpC x).toArray)] (rpC x).toArray i0 zRp Tryz.underlying49 hi0 hz0 (by rw [hz1]; decide) (by rw [hz1]; decide) (by rw [hz1]; exact hf), Result.andThen_ok, Sem.run_pure]
theorem eval_tmp (A : Act) (d : Nat) : A.eval (.tmp d) = A.tmps[d]?.getD undef := by simp [Act.eval, Array.getD_eq_getD_getElem?]
theorem wp_stRp {Q : Exit → Act → World → Prop} {K' : Act → World → Prop} {A : Act} {u u' : World} {x y : Operand} {ty : TypeId} {pos : String} {after : Array Edge} {guard : Option (Nat × Bool)} {ptr v : Value} (hx : A.eval x = ptr) (hy : A.eval y = v)
    (S : (stT 56 ptr v).run Tryz.prog u = .ok .skip u') (hK : ∀ v, K' (A.put none v) u') : Oper.wp Tryz.prog ⟨none, .store 56 x y, ty, pos, after, guard⟩ A u K' Q := by
  unfold Oper.wp
  rw [execOp_stRp, hx, hy, S]
  exact hK undef
theorem Nb.setRow {w0 w : World} {b : Nat} {v : Value} {p : Nat} {cs : List Value} {t : TypeId} (n : Nb w0 b v p cs t w) (ds : List Value) : Nb w0 b v p ds t (w.setRow p ds.toArray) :=
  ⟨setRow_heap _ _ _ _ _ _ n.blk, n.lo, n.ap, n.lt⟩

/-- What there is when the loop's list, a flow and a report are at hand. -/
def At9 (w : World) (b R : Nat) (vo : Value) (xs : List Rp) (pf : Nat) (x : Fl) (v7 : Value) (wx : World) : Prop :=
  ∃ (p : Nat) (r : Rp), v7 = .pointer (some ⟨p, 0, none⟩) ∧ p ≠ pf ∧ Hid r.U ∧ Rd w b R vo xs wx ∧ Nb w b vo pf (flC x) 54 wx ∧ Nb w b vo p (rpC r) 56 wx


def cntA (l : Array Bool) : Nat := if l.getD 4 true then 0 else 1
theorem cntA_other {l : Array Bool} {i : Nat} (h : i ≠ 4) : cntA (l.setIfInBounds i true) = cntA l := by unfold cntA; rw [getD_set_ne true h]
theorem cntA_one {l : Array Bool} (h : l.getD 4 true = false) : cntA (l.setIfInBounds 4 true) + 1 = cntA l := by
  unfold cntA
  rw [getD_set_self, h]
  rfl
/-- What each operation of regions 27 and 28 gives. -/
def PhiA (b p po cell : Nat) (zs : List Int) (i : Nat) (v : Value) (u : World) : Prop :=
  match i with
  | 0 => v = .pointer (some ⟨p, cell, none⟩)
  | 1 | 4 | 5 | 6 => ∃ z : Int, v = .int .i64 z
  | 2 => v = .pointer (some ⟨b, 0, none⟩)
  | 3 => Lit b (zs.map (Value.int .i64)) 3 v u
  | 7 => v = .pointer (some ⟨po, cell, none⟩)
  | _ => True
theorem PhiA.gb {b p po cell : Nat} {zs : List Int} (i : Nat) (v : Value) (u u' : World) (hg : u.grownBy u' (some b)) (h : PhiA b p po cell zs i v u) : PhiA b p po cell zs i v u' := by
  unfold PhiA at *
  split at h <;> first | exact h | exact h.gb hg
structure JA (w0 : World) (b R : Nat) (vo : Value) (xs : List Rp) (p po : Nat) (r o : Rp) (l : Array Bool) (u : World) : Prop where
  rd : Rd w0 b (R + cntA l) vo xs u
  n : Nb w0 b vo p (rpC r) 56 u
  o : Nb w0 b vo po (rpC o) 56 u
theorem wp_stInt {Q : Exit → Act → World → Prop} {K' : Act → World → Prop} {A : Act} {u : World} {x y : Operand} {ty : TypeId} {pos : String} {after : Array Edge} {guard : Option (Nat × Bool)} {q i : Nat} {z z0 : Int} (hx : A.eval x = .pointer (some ⟨q, i, none⟩)) (hy : A.eval y = .int .i64 z)
    (c : u.cell? ⟨q, i, none⟩ = some (.int .i64 z0)) (f : u.frozen? ⟨q, i, none⟩ = false) (hK : ∀ v, K' (A.put none v) (u.setCell ⟨q, i, none⟩ (.int .i64 z))) : Oper.wp Tryz.prog ⟨none, .store 3 x y, ty, pos, after, guard⟩ A u K' Q := by
  have h0 := hK undef
  clear hK
  unfold Oper.wp
  simp only [execOp, hx, hy]
  go_simp
  exact h0

set_option maxHeartbeats 8000000 in
set_option maxRecDepth 100000 in
theorem reports_any (m : Nat) (w : World) (b R : Nat) (hm : m ≤ 10) (hs : Str w b (R + 181)) :
    Calls Tryz.prog 18 #[.pointer (some ⟨b, 0, none⟩), .int .i64 m] w (RpsPost (2 * m) b R w) := by
  have hbl := hs.lt
  go_enter Tryz.func18, Tryz.ntmps18
  go_wp2_with fail
  rename_i hK4
  go_loopw [5, 15] (fun vo vi wr => ∃ (k : Nat) (xs : List Rp), k ≤ m ∧ vi = .int .i64 k ∧ Rd w b (R + 21 + 16 * (m - k)) vo xs wr ∧ Hid (xs.length ≤ 2 * k)) (fun _ vi _ => m - (intOf vi).toNat)
  case atStart => exact ⟨0, [], Nat.zero_le _, rfl, ⟨hs.le (by omega), OwnE.nil _ _, gb_refl _ _, by simp, hbl⟩, Lib.hid (by simp)⟩
  case round =>
    clear hs
    obtain ⟨k, xs, hk, rfl, hR, hxl⟩ := hrel
    by_cases hlt : k < m
    · have hlt' : (k : Int) < m := by omega
      obtain ⟨Q, hQ⟩ : ∃ Q, Q = R + 21 + 16 * (m - (k + 1)) := ⟨_, rfl⟩
      have hQ' := Lib.hid hQ
      replace hR := hR.le (R' := Q + 16) (by omega)
      clear hQ
      go_wp2_with fail
      refine (pick_lit_at _ b (Q + 15) _ _ [6, 6, 6, 17, 1] _ _ (by simp) (by simp) hR.str (by simp) (by simp) (fun r => 0 ≤ r ∧ r ≤ 65535) (by simp)).mono ?_
      rintro e w1 ⟨pr, hpr, rfl, hs1, hg1⟩
      replace hR := (hR.alloc _).step hs1 hg1
      clear hs1 hg1
      go_wp2_with fail
      refine (range_any _ _ _ _ (Q + 14) (by omega) (by omega) (by omega) hR.str).mono ?_
      rintro e w2 ⟨a1, ⟨m1, m2⟩, rfl, hs1, hg1⟩
      replace hR := hR.step hs1 hg1
      clear hs1 hg1
      go_wp2_with fail
      refine (at_any a1 _ (by omega) (by omega)).mono ?_
      rintro e w3 ⟨rfl, hb1⟩
      replace hR := hR.below hb1
      clear hb1
      go_wp2_with fail
      refine (range_any _ _ _ _ (Q + 13) (by omega) (by omega) (by omega) hR.str).mono ?_
      rintro e w4 ⟨a2, ⟨n1, n2⟩, rfl, hs1, hg1⟩
      replace hR := hR.step hs1 hg1
      clear hs1 hg1
      go_wp2_with fail
      refine (at_any a2 _ (by omega) (by omega)).mono ?_
      rintro e w5 ⟨rfl, hb1⟩
      replace hR := hR.below hb1
      clear hb1
      have u0 : U64 0 := ⟨by omega, by omega⟩
      have ua : U64 (1681915904 + a1) := ⟨by omega, by omega⟩
      have ub : U64 (1681915904 + a2) := ⟨by omega, by omega⟩
      have ip : i60 pr := ⟨by omega, by omega⟩
      have iz : i60 0 := ⟨by omega, by omega⟩
      have hx : Hid (Fl.U ⟨pr, ⟨false, 0, 1681915904 + a1⟩, ⟨false, 0, 1681915904 + a2⟩, 0, 0⟩) := Lib.hid ⟨(⟨u0, ua⟩ : U64 0 ∧ U64 (1681915904 + a1)), (⟨u0, ub⟩ : U64 0 ∧ U64 (1681915904 + a2)), ip, iz, iz⟩
      have S4 : (stT 54 (.pointer (some ⟨w5.heap.size, 0, none⟩)) (.agg #[.int .i64 pr, .bool false, .int .u64 0, .int .u64 (1681915904 + a1), .bool false, .int .u64 0, .int .u64 (1681915904 + a2), .int .i64 0, .int .i64 0])).run Tryz.prog (w5.alloc (.cells #[.int .i64 0, .bool false, .int .u64 0, .int .u64 0, .bool false, .int .u64 0, .int .u64 0, .int .i64 0, .int .i64 0] 54)) = .ok .skip (w5.alloc (.cells (flC ⟨pr, ⟨false, 0, 1681915904 + a1⟩, ⟨false, 0, 1681915904 + a2⟩, 0, 0⟩).toArray 54)) :=
        stT_new rowFl w5 w5.heap.size rfl [.int .i64 0, .bool false, .int .u64 0, .int .u64 0, .bool false, .int .u64 0, .int .u64 0, .int .i64 0, .int .i64 0] (flC ⟨pr, ⟨false, 0, 1681915904 + a1⟩, ⟨false, 0, 1681915904 + a2⟩, 0, 0⟩) rfl rfl (flC_one _)
      have hF := Nb.new hR (flC ⟨pr, ⟨false, 0, 1681915904 + a1⟩, ⟨false, 0, 1681915904 + a2⟩, 0, 0⟩) 54
      replace hR := hR.alloc (.cells (flC ⟨pr, ⟨false, 0, 1681915904 + a1⟩, ⟨false, 0, 1681915904 + a2⟩, 0, 0⟩).toArray 54)
      clear hpr m1 m2 n1 n2 u0 ua ub ip iz
      go_upto_region 5 with fail
      clear S4
      generalize (⟨pr, ⟨false, 0, 1681915904 + a1⟩, ⟨false, 0, 1681915904 + a2⟩, 0, 0⟩ : Fl) = x at *
      obtain ⟨wz, hwz⟩ : ∃ wz, wz = w5.alloc (.cells (flC x).toArray 54) := ⟨_, rfl⟩
      rw [← hwz] at hR hF ⊢
      generalize w5.heap.size = pf at hF ⊢
      clear hwz
      go_upto_if 28 with fail
      refine (flip_any _ _ _ (Q + 12) (by omega) (by omega) hR.str).mono ?_
      rintro e w6 ⟨r6, rfl, hs1, hg1⟩
      replace hR := hR.step hs1 hg1
      replace hF := hF.step hg1
      clear hs1 hg1
      go_upto_if 28 with fail
      go_cut [] (fun wx => ∃ x : Fl, Hid x.U ∧ Rd w b (Q + 11) u5 xs wx ∧ Nb w b u5 pf (flC x) 54 wx)
      case first => as_aux_lemma =>
        cases r6
        · go_wp2_with fail
          go_meet
          exact ⟨x, hx, hR.le (by omega), hF⟩
        · go_wp2_with fail
          refine (range_any _ _ _ _ (Q + 11) (by omega) (by omega) (by omega) hR.str).mono ?_
          rintro e w7 ⟨a3, ⟨n1, n2⟩, rfl, hs1, hg1⟩
          replace hR := hR.step hs1 hg1
          replace hF := hF.step hg1
          clear hs1 hg1
          have S6 : (stT 28 (.pointer (some ⟨pf, 4, none⟩)) (.agg #[.bool false, .int .u64 0, .int .u64 (167772160 + a3)])).run Tryz.prog w7 = .ok .skip (w7.setCells pf 4 (adC ⟨false, 0, 167772160 + a3⟩)) :=
            stT_mid rowAd (cs := adC ⟨false, 0, 167772160 + a3⟩) hF.blk 4 (by rw [flC_len]; decide) (adC_len _) (adC_one _)
          have ua : U64 (167772160 + a3) := ⟨by omega, by omega⟩
          have u0 : U64 0 := ⟨by omega, by omega⟩
          go_wp2_with fail
          go_meet
          exact ⟨{ x with t := ⟨false, 0, 167772160 + a3⟩ }, Lib.hid ⟨hx.out.1, ⟨u0, ua⟩, hx.out.2.2⟩, hR.turn hF (gb_cellsN _ _ _), hF.setC 4 (adC ⟨false, 0, 167772160 + a3⟩)⟩
      case rest =>
      rename_i hK3 Kc hKc
      clear hR hF hx x
      obtain ⟨x, hx, hR, hF⟩ := hcut
      have c0 := hF.blk.cell (i := 0) (v := .int .i64 x.p) rfl
      go_upto_if 37 with fail
      go_cut [] (fun wx => ∃ x : Fl, Hid x.U ∧ Rd w b (Q + 9) u5 xs wx ∧ Nb w b u5 pf (flC x) 54 wx)
      case first =>
        by_cases h1 : x.p = 1
        · have hb1 : (x.p != 1) = false := by simp [h1]
          go_wp2_with fail
          go_meet
          exact ⟨x, hx, hR.le (by omega), hF⟩
        · have hb1 : (x.p != 1) = true := by simp [h1]
          clear c0 h1
          go_wp2_with fail
          refine (pick_lit_at _ b (Q + 10) _ _ [9, 9, 10] _ _ (by simp) (by simp) hR.str (by simp) (by simp) (fun r => 0 ≤ r ∧ r ≤ 65535) (by simp)).mono ?_
          rintro e w7 ⟨a3, n1, rfl, hs1, hg1⟩
          replace hR := (hR.alloc _).step hs1 hg1
          replace hF := (hF.alloc _).step hg1
          clear hs1 hg1
          go_wp2_with fail
          refine (pick_lit_at _ b (Q + 9) _ _ [80, 80, 443, 22, 23] _ _ (by simp) (by simp) hR.str (by simp) (by simp) (fun r => 0 ≤ r ∧ r ≤ 65535) (by simp)).mono ?_
          rintro e w8 ⟨a4, n2, rfl, hs1, hg1⟩
          replace hR := (hR.alloc _).step hs1 hg1
          replace hF := (hF.alloc _).step hg1
          clear hs1 hg1
          have c7 := hF.blk.cell (i := 7) (v := .int .i64 x.fp) rfl
          have c8 := hF.blk.cell (i := 8) (v := .int .i64 x.tp) rfl
          have f7 := hF.blk.free 7
          have f8 := hF.blk.free 8
          have hi3 : i60 a3 := ⟨by omega, by omega⟩
          have hi4 : i60 a4 := ⟨by omega, by omega⟩
          have hF2 := (hF.set 7 (.int .i64 a3)).set 8 (.int .i64 a4)
          have hR2 := (hR.turn hF (gb_cell1 w8 pf 7 (.int .i64 a3))).turn (hF.set 7 (.int .i64 a3)) (gb_cell1 _ pf 8 (.int .i64 a4))
          go_wp2_with fail
          go_meet
          exact ⟨{ x with fp := a3, tp := a4 }, Lib.hid ⟨hx.out.1, hx.out.2.1, hx.out.2.2.1, hi3, hi4⟩, hR2, hF2⟩
      case rest =>
      clear hR hF hx c0 x
      obtain ⟨x, hx, hR, hF⟩ := hcut
      go_upto_region 9 with fail
      go_cut [7] (fun v7 wx => At9 w b (Q + 4) u5 xs pf x v7 wx)
      case first =>
        have hcn : cnt9 (Array.replicate 18 false) = 5 := by rfl
        refine wi_tail (Φ := Phi9 w b u5 pf x) (J := J9 w b (Q + 4) u5 xs pf x) (Rel := fun u u' => u.grownBy u' (some b)) 17 (by kernel_rfl) (by kernel_rfl) (by kernel_rfl) (by kernel_rfl) (by kernel_rfl)
          (by simp only [List.getElem?_toArray, List.getElem?_cons_succ, List.getElem?_cons_zero] <;> rfl) rfl (by rfl) (by kernel_rfl) (fun i v u u' hg h => Phi9.gb i v u u' hg h) ?j0 ?steps ?last
        case j0 => exact ⟨hR.below ⟨rfl, rfl, rfl, Nat.le_refl _, fun _ _ => rfl⟩, hF.below ⟨rfl, rfl, rfl, Nat.le_refl _, fun _ _ => rfl⟩⟩
        case steps =>
          intro i o hi ho
          rename_i hK2 Jx Kx hK1 hK0
          clear hR hF hxl hQ' hlt' hlt hK4 hK3 hK2 hK1 hK0 hcn
          rcases i with _ | _ | _ | _ | _ | _ | _ | _ | _ | _ | _ | _ | _ | _ | _ | _ | _ | i
          · simp only [List.getElem?_toArray, List.getElem?_cons_succ, List.getElem?_cons_zero] at ho
            obtain rfl := Option.some.inj ho
            intro listed vs a u hun hsz hJ hdep hfr K hK
            have e0 := (hfr 0 (by kernel_rfl)).trans (rfl : _ = Value.pointer (some ⟨b, 0, none⟩))
            clear hdep hfr
            go_simp
            exact hK _ _ (gb_refl _ _) rfl ⟨by rw [cnt9_other (by decide)]; exact hJ.rd, hJ.f⟩
          · simp only [List.getElem?_toArray, List.getElem?_cons_succ, List.getElem?_cons_zero] at ho
            obtain rfl := Option.some.inj ho
            intro listed vs a u hun hsz hJ hdep hfr K hK
            clear hdep hfr
            have hb : b < u.heap.size := by have := hJ.rd.str.lt; exact this
            go_simp
            exact hK _ _ (World.grownBy_alloc _ _ _) ⟨u.heap.size, rfl, hb, Blk.new u L1 9⟩ ⟨by rw [cnt9_other (by decide)]; exact hJ.rd.alloc _, hJ.f.alloc _⟩
          · simp only [List.getElem?_toArray, List.getElem?_cons_succ, List.getElem?_cons_zero] at ho
            obtain rfl := Option.some.inj ho
            intro listed vs a u hun hsz hJ hdep hfr K hK
            obtain ⟨d0, g0⟩ := hdep 0 (by kernel_rfl)
            replace g0 := g0 46 rfl
            replace d0 : vs 0 = _ := d0
            rw [d0] at g0
            obtain ⟨d1, g1⟩ := hdep 1 (by kernel_rfl)
            replace g1 := g1 47 rfl
            obtain ⟨p, hp, hbp, hB⟩ := d1
            rw [hp] at g1
            have hs : Str u b (Q + 4 + cnt9 (listed.setIfInBounds 2 true) + 1) := by rw [Nat.add_assoc, cnt9_one (by decide) hun]; exact hJ.rd.str
            clear hdep hfr
            go_simp
            refine (some_any u b _ p _ _ 40 L1 _ hs hbp hB rfl (by decide) (by decide) (by rfl)).mono ?_
            rintro e u1 ⟨l, hl, rfl, hs1, hg1⟩
            exact hK _ _ hg1 ⟨l, hl, rfl⟩ ⟨hJ.rd.step hs1 hg1, hJ.f.step hg1⟩
          · simp only [List.getElem?_toArray, List.getElem?_cons_succ, List.getElem?_cons_zero] at ho
            obtain rfl := Option.some.inj ho
            intro listed vs a u hun hsz hJ hdep hfr K hK
            have e0 := (hfr 0 (by kernel_rfl)).trans (rfl : _ = Value.pointer (some ⟨b, 0, none⟩))
            clear hdep hfr
            go_simp
            exact hK _ _ (gb_refl _ _) rfl ⟨by rw [cnt9_other (by decide)]; exact hJ.rd, hJ.f⟩
          · simp only [List.getElem?_toArray, List.getElem?_cons_succ, List.getElem?_cons_zero] at ho
            obtain rfl := Option.some.inj ho
            intro listed vs a u hun hsz hJ hdep hfr K hK
            clear hdep hfr
            have hb : b < u.heap.size := by have := hJ.rd.str.lt; exact this
            go_simp
            exact hK _ _ (World.grownBy_alloc _ _ _) ⟨u.heap.size, rfl, hb, Blk.new u (([0, 0, 1, 1, 2, 5, 23, 24, 30, 50, 720] : List Int).map (Value.int .i64)) 3⟩ ⟨by rw [cnt9_other (by decide)]; exact hJ.rd.alloc _, hJ.f.alloc _⟩
          · simp only [List.getElem?_toArray, List.getElem?_cons_succ, List.getElem?_cons_zero] at ho
            obtain rfl := Option.some.inj ho
            intro listed vs a u hun hsz hJ hdep hfr K hK
            obtain ⟨d3, g3⟩ := hdep 3 (by kernel_rfl)
            replace g3 := g3 49 rfl
            replace d3 : vs 3 = _ := d3
            rw [d3] at g3
            obtain ⟨d4, g4⟩ := hdep 4 (by kernel_rfl)
            replace g4 := g4 50 rfl
            obtain ⟨p, hp, hbp, hB⟩ := d4
            rw [hp] at g4
            have hs : Str u b (Q + 4 + cnt9 (listed.setIfInBounds 5 true) + 1) := by rw [Nat.add_assoc, cnt9_one (by decide) hun]; exact hJ.rd.str
            clear hdep hfr
            go_simp
            refine (pick_blk u b _ p _ _ [0, 0, 1, 1, 2, 5, 23, 24, 30, 50, 720] _ hs hbp hB rfl (by decide) (by decide) i60 (by simp [i60])).mono ?_
            rintro e u1 ⟨z, hz, rfl, hs1, hg1⟩
            exact hK _ _ hg1 ⟨z, hz, rfl⟩ ⟨hJ.rd.step hs1 hg1, hJ.f.step hg1⟩
          · simp only [List.getElem?_toArray, List.getElem?_cons_succ, List.getElem?_cons_zero] at ho
            obtain rfl := Option.some.inj ho
            intro listed vs a u hun hsz hJ hdep hfr K hK
            have e0 := (hfr 0 (by kernel_rfl)).trans (rfl : _ = Value.pointer (some ⟨b, 0, none⟩))
            clear hdep hfr
            go_simp
            exact hK _ _ (gb_refl _ _) rfl ⟨by rw [cnt9_other (by decide)]; exact hJ.rd, hJ.f⟩
          · simp only [List.getElem?_toArray, List.getElem?_cons_succ, List.getElem?_cons_zero] at ho
            obtain rfl := Option.some.inj ho
            intro listed vs a u hun hsz hJ hdep hfr K hK
            obtain ⟨d6, g6⟩ := hdep 6 (by kernel_rfl)
            replace g6 := g6 52 rfl
            replace d6 : vs 6 = _ := d6
            rw [d6] at g6
            have hs : Str u b (Q + 4 + cnt9 (listed.setIfInBounds 7 true) + 1) := by rw [Nat.add_assoc, cnt9_one (by decide) hun]; exact hJ.rd.str
            clear hdep hfr
            go_simp
            refine (flip_any _ _ _ _ (by omega) (by omega) hs).mono ?_
            rintro e u1 ⟨r, rfl, hs1, hg1⟩
            exact hK _ _ hg1 ⟨r, rfl⟩ ⟨hJ.rd.step hs1 hg1, hJ.f.step hg1⟩
          · simp only [List.getElem?_toArray, List.getElem?_cons_succ, List.getElem?_cons_zero] at ho
            obtain rfl := Option.some.inj ho
            intro listed vs a u hun hsz hJ hdep hfr K hK
            have e6 := (hfr 6 (by kernel_rfl)).trans (rfl : _ = Value.pointer (some ⟨pf, 0, none⟩))
            have l8 := hJ.f.blk.ld rowFl rfl
            clear hdep hfr
            go_simp
            exact hK _ _ (gb_refl _ _) rfl ⟨by rw [cnt9_other (by decide)]; exact hJ.rd, hJ.f⟩
          · simp only [List.getElem?_toArray, List.getElem?_cons_succ, List.getElem?_cons_zero] at ho
            obtain rfl := Option.some.inj ho
            intro listed vs a u hun hsz hJ hdep hfr K hK
            have e0 := (hfr 0 (by kernel_rfl)).trans (rfl : _ = Value.pointer (some ⟨b, 0, none⟩))
            clear hdep hfr
            go_simp
            exact hK _ _ (gb_refl _ _) rfl ⟨by rw [cnt9_other (by decide)]; exact hJ.rd, hJ.f⟩
          · simp only [List.getElem?_toArray, List.getElem?_cons_succ, List.getElem?_cons_zero] at ho
            obtain rfl := Option.some.inj ho
            intro listed vs a u hun hsz hJ hdep hfr K hK
            clear hdep hfr
            have hb : b < u.heap.size := by have := hJ.rd.str.lt; exact this
            go_simp
            exact hK _ _ (World.grownBy_alloc _ _ _) ⟨u.heap.size, rfl, hb, Blk.new u (([1, 2, 10, 100] : List Int).map (Value.int .i64)) 3⟩ ⟨by rw [cnt9_other (by decide)]; exact hJ.rd.alloc _, hJ.f.alloc _⟩
          · simp only [List.getElem?_toArray, List.getElem?_cons_succ, List.getElem?_cons_zero] at ho
            obtain rfl := Option.some.inj ho
            intro listed vs a u hun hsz hJ hdep hfr K hK
            obtain ⟨d9, g9⟩ := hdep 9 (by kernel_rfl)
            replace g9 := g9 55 rfl
            replace d9 : vs 9 = _ := d9
            rw [d9] at g9
            obtain ⟨d10, g10⟩ := hdep 10 (by kernel_rfl)
            replace g10 := g10 56 rfl
            obtain ⟨p, hp, hbp, hB⟩ := d10
            rw [hp] at g10
            have hs : Str u b (Q + 4 + cnt9 (listed.setIfInBounds 11 true) + 1) := by rw [Nat.add_assoc, cnt9_one (by decide) hun]; exact hJ.rd.str
            clear hdep hfr
            go_simp
            refine (pick_blk u b _ p _ _ [1, 2, 10, 100] _ hs hbp hB rfl (by decide) (by decide) (fun _ => True) (by simp)).mono ?_
            rintro e u1 ⟨z, _, rfl, hs1, hg1⟩
            exact hK _ _ hg1 ⟨z, rfl⟩ ⟨hJ.rd.step hs1 hg1, hJ.f.step hg1⟩
          · simp only [List.getElem?_toArray, List.getElem?_cons_succ, List.getElem?_cons_zero] at ho
            obtain rfl := Option.some.inj ho
            intro listed vs a u hun hsz hJ hdep hfr K hK
            have e0 := (hfr 0 (by kernel_rfl)).trans (rfl : _ = Value.pointer (some ⟨b, 0, none⟩))
            clear hdep hfr
            go_simp
            exact hK _ _ (gb_refl _ _) rfl ⟨by rw [cnt9_other (by decide)]; exact hJ.rd, hJ.f⟩
          · simp only [List.getElem?_toArray, List.getElem?_cons_succ, List.getElem?_cons_zero] at ho
            obtain rfl := Option.some.inj ho
            intro listed vs a u hun hsz hJ hdep hfr K hK
            clear hdep hfr
            have hb : b < u.heap.size := by have := hJ.rd.str.lt; exact this
            go_simp
            exact hK _ _ (World.grownBy_alloc _ _ _) ⟨u.heap.size, rfl, hb, Blk.new u (([0, 50, 100, 110, 1000, 1000000000, 1000000001] : List Int).map (Value.int .i64)) 3⟩ ⟨by rw [cnt9_other (by decide)]; exact hJ.rd.alloc _, hJ.f.alloc _⟩
          · simp only [List.getElem?_toArray, List.getElem?_cons_succ, List.getElem?_cons_zero] at ho
            obtain rfl := Option.some.inj ho
            intro listed vs a u hun hsz hJ hdep hfr K hK
            obtain ⟨d12, g12⟩ := hdep 12 (by kernel_rfl)
            replace g12 := g12 58 rfl
            replace d12 : vs 12 = _ := d12
            rw [d12] at g12
            obtain ⟨d13, g13⟩ := hdep 13 (by kernel_rfl)
            replace g13 := g13 59 rfl
            obtain ⟨p, hp, hbp, hB⟩ := d13
            rw [hp] at g13
            have hs : Str u b (Q + 4 + cnt9 (listed.setIfInBounds 14 true) + 1) := by rw [Nat.add_assoc, cnt9_one (by decide) hun]; exact hJ.rd.str
            clear hdep hfr
            go_simp
            refine (pick_blk u b _ p _ _ [0, 50, 100, 110, 1000, 1000000000, 1000000001] _ hs hbp hB rfl (by decide) (by decide) (fun _ => True) (by simp)).mono ?_
            rintro e u1 ⟨z, _, rfl, hs1, hg1⟩
            exact hK _ _ hg1 ⟨z, rfl⟩ ⟨hJ.rd.step hs1 hg1, hJ.f.step hg1⟩
          · simp only [List.getElem?_toArray, List.getElem?_cons_succ, List.getElem?_cons_zero] at ho
            obtain rfl := Option.some.inj ho
            intro listed vs a u hun hsz hJ hdep hfr K hK
            obtain ⟨d2, g2⟩ := hdep 2 (by kernel_rfl)
            replace g2 := g2 48 rfl
            obtain ⟨d5, g5⟩ := hdep 5 (by kernel_rfl)
            replace g5 := g5 51 rfl
            obtain ⟨d7, g7⟩ := hdep 7 (by kernel_rfl)
            replace g7 := g7 53 rfl
            obtain ⟨d8, g8⟩ := hdep 8 (by kernel_rfl)
            replace g8 := g8 54 rfl
            obtain ⟨d11, g11⟩ := hdep 11 (by kernel_rfl)
            replace g11 := g11 57 rfl
            obtain ⟨d14, g14⟩ := hdep 14 (by kernel_rfl)
            replace g14 := g14 60 rfl
            obtain ⟨l, hl, v2⟩ := d2
            obtain ⟨hr, h5, v5⟩ := d5
            obtain ⟨o, v7⟩ := d7
            replace d8 : vs 8 = flA x := d8
            obtain ⟨pk, v11⟩ := d11
            obtain ⟨by_, v14⟩ := d14
            rw [v2] at g2
            rw [v5] at g5
            rw [v7] at g7
            rw [d8] at g8
            rw [v11] at g11
            rw [v14] at g14
            clear hdep hfr
            go_simp
            exact hK _ _ (gb_refl _ _) ⟨⟨l, hr, o, x, pk, by_⟩, rfl, ⟨hx.out, h5, Nat.le_trans hl (by decide)⟩, rfl⟩ ⟨by rw [cnt9_other (by decide)]; exact hJ.rd, hJ.f⟩
          · simp only [List.getElem?_toArray, List.getElem?_cons_succ, List.getElem?_cons_zero] at ho
            obtain rfl := Option.some.inj ho
            intro listed vs a u hun hsz hJ hdep hfr K hK
            clear hdep hfr
            have hlt := hJ.f.blk.lt
            go_simp
            exact hK _ _ (World.grownBy_alloc _ _ _) ⟨u.heap.size, rfl, by omega, Nb.new hJ.rd zRpC _⟩ ⟨by rw [cnt9_other (by decide)]; exact hJ.rd.alloc _, hJ.f.alloc _⟩
          · omega
        case last =>
          intro listed vs u hsz hall hJ hP A hA hdep hfr K hK
          obtain ⟨r, hrx, hrU, v15⟩ := hP 15 (by decide)
          obtain ⟨p, v16, hne, hN⟩ := hP 16 (by decide)
          have e61 := (eval_tmp A 61).trans ((hdep 15 61 rfl (by decide)).trans v15)
          have e7 := (eval_tmp A 7).trans ((hdep 16 7 rfl (by decide)).trans v16)
          have S := stT_row rowRp hN.blk rfl (rpC_len r) (rpC_one r)
          have hrow := gb_row u p (rpC r)
          refine wp_stRp e7 e61 S (fun v => hK _ _ ?_)
          have hJ1 := hJ.rd.turn hN hrow
          have hJ2 := hJ.f.turn hrow (Ne.symm hne)
          have hN2 : Nb w b u5 p (rpC r) 56 (u.setRow p (rpC r).toArray) := hN.setRow (rpC r)
          clear hdep hfr hP hall hsz S hrow e7 e61 hR hF
          rw [hA.out]
          simp only [putL, Act.put, List.setIfInBounds_toArray, List.set_cons_zero, List.set_cons_succ, Nat.zero_add, Nat.reduceAdd, v16]
          clear hJ hN hA v15 v16
          go_wp2_with fail
          go_meet
          exact ⟨p, r, rfl, hne, Lib.hid hrU, hJ1.le (by omega), hJ2, hN2⟩
      case rest =>
      clear hR hF
      obtain ⟨p, r, rfl, hpf, hr, hR, hF, hN⟩ := hcut
      go_upto_if 64 with fail
      refine (flip_any _ _ _ (Q + 3) (by omega) (by omega) hR.str).mono ?_
      rintro e w9 ⟨r9, rfl, hs1, hg1⟩
      replace hR := hR.step hs1 hg1
      replace hF := hF.step hg1
      replace hN := hN.step hg1
      clear hs1 hg1
      go_upto_if 64 with fail
      go_cut [] (fun wx => ∃ r : Rp, Hid r.U ∧ Rd w b (Q + 3) u5 xs wx ∧ Nb w b u5 pf (flC x) 54 wx ∧ Nb w b u5 p (rpC r) 56 wx)
      case first =>
        cases r9
        · have lt := hF.blk.ldAt rowAd 4 (adC x.t) [.int .i64 x.fp, .int .i64 x.tp] rfl rfl
          have S8 : (stT 28 (.pointer (some ⟨w9.heap.size, 0, none⟩)) (.agg (adC x.t).toArray)).run Tryz.prog (w9.alloc (.cells #[.bool false, .int .u64 0, .int .u64 0] 28)) = .ok .skip (w9.alloc (.cells (adC x.t).toArray 28)) :=
            stT_new rowAd w9 w9.heap.size rfl [.bool false, .int .u64 0, .int .u64 0] (adC x.t) rfl rfl (adC_one _)
          have hO := Nb.new hR (adC x.t) 28
          have hp8 : pf ≠ w9.heap.size ∧ p ≠ w9.heap.size := ⟨by have := hF.blk.lt; omega, by have := hN.blk.lt; omega⟩
          replace hR := hR.alloc (.cells (adC x.t).toArray 28)
          replace hF := hF.alloc (.cells (adC x.t).toArray 28)
          replace hN := hN.alloc (.cells (adC x.t).toArray 28)
          go_upto_region 12 with fail
          obtain ⟨wy, hwy⟩ : ∃ wy, wy = w9.alloc (.cells (adC x.t).toArray 28) := ⟨_, rfl⟩
          rw [← hwy] at hR hF hN hO ⊢
          generalize w9.heap.size = p8 at hO hp8 ⊢
          clear hwy lt S8
          obtain ⟨o2, ho2⟩ : ∃ o2, o2 = r.out := ⟨_, rfl⟩
          have c2 := hN.blk.cell (i := 2) (v := .bool o2) (by rw [ho2]; rfl)
          clear ho2
          go_upto_if 68 with fail
          go_cut [] (fun wx => ∃ a : Ad, Rd w b (Q + 3) u5 xs wx ∧ Nb w b u5 pf (flC x) 54 wx ∧ Nb w b u5 p (rpC r) 56 wx ∧ Nb w b u5 p8 (adC a) 28 wx)
          case first =>
            cases o2
            · go_wp2_with fail
              go_meet
              exact ⟨x.t, hR, hF, hN, hO⟩
            · have l1 := hF.blk.ldAt rowAd 1 (adC x.f) (adC x.t ++ [.int .i64 x.fp, .int .i64 x.tp]) rfl rfl
              have S13 := stT_row rowAd hO.blk rfl (adC_len x.f) (adC_one _)
              have hrow := gb_row wy p8 (adC x.f)
              have hR2 := hR.turn hO hrow
              have hF2 := hF.turn hrow hp8.1
              have hN2 := hN.turn hrow hp8.2
              have hO2 := hO.setRow (adC x.f)
              go_wp2_with fail
              go_meet
              exact ⟨x.f, hR2, hF2, hN2, hO2⟩
          case rest =>
          clear hR hF hN hO c2 o2
          obtain ⟨a, hR, hF, hN, hO⟩ := hcut
          have c8 := hO.blk.cell (i := 2) (v := .int .u64 a.lo) rfl
          go_upto_region 15 with fail
          obtain ⟨z, hz⟩ : ∃ z, z = IntKind.u64.wrap (a.lo - 1681915904) := ⟨_, rfl⟩
          rw [← hz]
          clear hz c8
          by_cases h14 : 1 ≤ z ∧ z ≤ 4
          · have c0 := hN.blk.cell (i := 0) (v := .string ⟨r.node.toArray⟩) rfl
            have f0 := hN.blk.free 0
            have hpl := hN.blk.lt
            rcases (show z = 1 ∨ z = 2 ∨ z = 3 ∨ z = 4 by omega) with rfl | rfl | rfl | rfl
            all_goals
              clear h14
              go_wp2_with fail
              go_meet
            · exact ⟨{ r with node := [110, 97] }, Lib.hid ⟨hr.out.1, hr.out.2.1, by simp⟩, (hR.turn hN (gb_cell1 _ _ _ _)).alloc _, (hF.turn (gb_cell1 _ _ _ _) (Ne.symm hpf)).alloc _, (hN.set 0 _).alloc _⟩
            · exact ⟨{ r with node := [110, 98] }, Lib.hid ⟨hr.out.1, hr.out.2.1, by simp⟩, (hR.turn hN (gb_cell1 _ _ _ _)).alloc _, (hF.turn (gb_cell1 _ _ _ _) (Ne.symm hpf)).alloc _, (hN.set 0 _).alloc _⟩
            · exact ⟨{ r with node := [110, 99] }, Lib.hid ⟨hr.out.1, hr.out.2.1, by simp⟩, (hR.turn hN (gb_cell1 _ _ _ _)).alloc _, (hF.turn (gb_cell1 _ _ _ _) (Ne.symm hpf)).alloc _, (hN.set 0 _).alloc _⟩
            · exact ⟨{ r with node := [110, 100] }, Lib.hid ⟨hr.out.1, hr.out.2.1, by simp⟩, (hR.turn hN (gb_cell1 _ _ _ _)).alloc _, (hF.turn (gb_cell1 _ _ _ _) (Ne.symm hpf)).alloc _, (hN.set 0 _).alloc _⟩
          · by_cases h1 : 1 ≤ z
            · have h4 : ¬ z ≤ 4 := fun h => h14 ⟨h1, h⟩
              have d1 : decide (1 ≤ z) = true := by simpa using h1
              have d4 : decide (z ≤ 4) = false := by simpa using h4
              clear h14
              go_wp2_with fail
              go_meet
              exact ⟨r, hr, hR, hF, hN⟩
            · have d1 : decide (1 ≤ z) = false := by simpa using h1
              clear h14
              go_wp2_with fail
              go_meet
              exact ⟨r, hr, hR, hF, hN⟩
        · go_wp2_with fail
          go_meet
          exact ⟨r, hr, hR, hF, hN⟩
      case rest =>
      clear hR hF hN hr r
      obtain ⟨r, hr, hR, hF, hN⟩ := hcut
      have lr := hN.blk.ld rowRp (rpC_len r)
      have hxl2 : xs.length + [r].length ≤ 1000000 := by have := hxl.out; simp; omega
      have hsz := hR.base.size
      go_wp2_with (at_builtin; refine wpList_app tyeRp rfl _ _ rfl w.heap.size _ xs [r] rfl (hR.own.below ((Below.refl _ _).alloc (Nat.le_refl _) _)) ⟨_, 0, none⟩ 1 1 rfl rfl ?d1 ?d2 ?d3 ?_)
      case d1 => exact cell_row_at _ _ _ _ rfl
      case d2 => exact hxl2
      case d3 => simp; omega
      intro v' w4 hown4 hg4 hv4
      have hR4 : Rd w b (Q + 3) v' (xs ++ [r]) w4 := hR.app (fun y hy => by rw [List.mem_singleton.1 hy]; exact hr.out) _ hown4 hg4
      have hF4 := hF.app _ hg4 hv4
      have hN4 := hN.app _ hg4 hv4
      clear hR hF hN hown4 hg4 hv4 lr hsz hxl2
      have hyl : Hid ((xs ++ [r]).length ≤ 2 * k + 1) := Lib.hid (by have := hxl.out; simp; omega)
      generalize xs ++ [r] = ys at *
      go_upto_if 90 with fail
      refine (flip_any _ _ _ (Q + 2) (by omega) (by omega) hR4.str).mono ?_
      rintro e w5' ⟨r9, rfl, hs1, hg1⟩
      replace hR := hR4.step hs1 hg1
      replace hF := hF4.step hg1
      replace hN := hN4.step hg1
      clear hs1 hg1 hR4 hF4 hN4
      cases r9
      · replace hR := hR.le (R' := Q) (by omega)
        clear hF hN
        go_wp2_with fail
        go_roundw
        case rel => exact ⟨k + 1, ys, by omega, by go_num, hR.le (by have := hQ'.out; omega), Lib.hid (by have := hyl.out; omega)⟩
        case measure => simp [intOf]; omega
      ·
        have lr := hN.blk.ld rowRp (rpC_len r)
        have S19 : (stT 56 (.pointer (some ⟨w5'.heap.size, 0, none⟩)) (.agg (rpC r).toArray)).run Tryz.prog (w5'.alloc (.cells #[.string ⟨#[]⟩, .int .i64 0, .bool false, .int .i64 0, .bool false, .int .u64 0, .int .u64 0, .bool false, .int .u64 0, .int .u64 0, .int .i64 0, .int .i64 0, .int .i64 0, .int .i64 0] 56)) = .ok .skip (w5'.alloc (.cells (rpC r).toArray 56)) :=
          stT_new rowRp w5' w5'.heap.size rfl zRpC (rpC r) rfl (rpC_len r) (rpC_one r)
        have hO := Nb.new hR (rpC r) 56
        have hpo : pf ≠ w5'.heap.size ∧ p ≠ w5'.heap.size := ⟨by have := hF.blk.lt; omega, by have := hN.blk.lt; omega⟩
        replace hR := hR.alloc (.cells (rpC r).toArray 56)
        replace hF := hF.alloc (.cells (rpC r).toArray 56)
        replace hN := hN.alloc (.cells (rpC r).toArray 56)
        go_upto_region 20 with fail
        obtain ⟨wy, hwy⟩ : ∃ wy, wy = w5'.alloc (.cells (rpC r).toArray 56) := ⟨_, rfl⟩
        rw [← hwy] at hR hF hN hO ⊢
        generalize w5'.heap.size = po at hO hpo ⊢
        clear hwy lr S19
        obtain ⟨hpf', hpo⟩ := hpo
        obtain ⟨o2, ho2⟩ : ∃ o2, o2 = r.out := ⟨_, rfl⟩
        have c2 := hN.blk.cell (i := 2) (v := .bool o2) (by rw [ho2]; rfl)
        have c3 := hO.blk.cell (i := 2) (v := .bool o2) (by rw [ho2]; rfl)
        have f3 := hO.blk.free 2
        clear ho2
        go_upto_region 21 with fail
        have hrow := gb_cell1 wy po 2 (.bool (!o2))
        replace hR := hR.turn hO hrow
        replace hF := hF.turn hrow hpf'
        replace hN := hN.turn hrow hpo
        replace hO : Nb w b v' po (rpC { r with out := !o2 }) 56 (wy.setCell ⟨po, 2, none⟩ (.bool (!o2))) := hO.set 2 (.bool (!o2))
        have ho : Hid (Rp.U { r with out := !o2 }) := Lib.hid hr.out
        obtain ⟨wv, hwv⟩ : ∃ wv, wv = wy.setCell ⟨po, 2, none⟩ (.bool (!o2)) := ⟨_, rfl⟩
        rw [← hwv] at hR hF hN hO ⊢
        clear hwv hrow c2 c3 f3
        generalize ({ r with out := !o2 } : Rp) = o at *
        have lt := hF.blk.ldAt rowAd 4 (adC x.t) [.int .i64 x.fp, .int .i64 x.tp] rfl rfl
        have S21 : (stT 28 (.pointer (some ⟨wv.heap.size, 0, none⟩)) (.agg (adC x.t).toArray)).run Tryz.prog (wv.alloc (.cells #[.bool false, .int .u64 0, .int .u64 0] 28)) = .ok .skip (wv.alloc (.cells (adC x.t).toArray 28)) :=
          stT_new rowAd wv wv.heap.size rfl [.bool false, .int .u64 0, .int .u64 0] (adC x.t) rfl rfl (adC_one _)
        have hE := Nb.new hR (adC x.t) 28
        have hpe : pf ≠ wv.heap.size ∧ p ≠ wv.heap.size ∧ po ≠ wv.heap.size := ⟨by have := hF.blk.lt; omega, by have := hN.blk.lt; omega, by have := hO.blk.lt; omega⟩
        replace hR := hR.alloc (.cells (adC x.t).toArray 28)
        replace hF := hF.alloc (.cells (adC x.t).toArray 28)
        replace hN := hN.alloc (.cells (adC x.t).toArray 28)
        replace hO := hO.alloc (.cells (adC x.t).toArray 28)
        go_upto_region 22 with fail
        obtain ⟨wu, hwu⟩ : ∃ wu, wu = wv.alloc (.cells (adC x.t).toArray 28) := ⟨_, rfl⟩
        rw [← hwu] at hR hF hN hO hE ⊢
        generalize wv.heap.size = pe at hE hpe ⊢
        clear hwu lt S21
        obtain ⟨o3, ho3⟩ : ∃ o3, o3 = o.out := ⟨_, rfl⟩
        have c2 := hO.blk.cell (i := 2) (v := .bool o3) (by rw [ho3]; rfl)
        clear ho3
        go_upto_if 99 with fail
        go_cut [] (fun wx => ∃ a : Ad, Rd w b (Q + 2) v' ys wx ∧ Nb w b v' pf (flC x) 54 wx ∧ Nb w b v' p (rpC r) 56 wx ∧ Nb w b v' po (rpC o) 56 wx ∧ Nb w b v' pe (adC a) 28 wx)
        case first =>
          cases o3
          · go_wp2_with fail
            go_meet
            exact ⟨x.t, hR, hF, hN, hO, hE⟩
          · have l1 := hF.blk.ldAt rowAd 1 (adC x.f) (adC x.t ++ [.int .i64 x.fp, .int .i64 x.tp]) rfl rfl
            have S13 := stT_row rowAd hE.blk rfl (adC_len x.f) (adC_one _)
            have hrow := gb_row wu pe (adC x.f)
            have hR2 := hR.turn hE hrow
            have hF2 := hF.turn hrow hpe.1
            have hN2 := hN.turn hrow hpe.2.1
            have hO2 := hO.turn hrow hpe.2.2
            have hE2 := hE.setRow (adC x.f)
            go_wp2_with fail
            go_meet
            exact ⟨x.f, hR2, hF2, hN2, hO2, hE2⟩
        case rest =>
        clear hR hF hN hO hE c2 o3
        obtain ⟨a, hR, hF, hN, hO, hE⟩ := hcut
        have c8 := hE.blk.cell (i := 2) (v := .int .u64 a.lo) rfl
        go_upto_region 25 with fail
        obtain ⟨z, hz⟩ : ∃ z, z = IntKind.u64.wrap (a.lo - 1681915904) := ⟨_, rfl⟩
        rw [← hz]
        clear hz c8 hE hF
        go_cut [110] (fun v110 wx => ∃ t : Bool, v110 = .bool t ∧ Hid (t = true → 1 ≤ z ∧ z ≤ 4) ∧ Rd w b (Q + 2) v' ys wx ∧ Nb w b v' p (rpC r) 56 wx ∧ Nb w b v' po (rpC o) 56 wx)
        case first =>
          by_cases h1 : 1 ≤ z
          · by_cases h4 : z ≤ 4
            · have d1 : decide (1 ≤ z) = true := by simpa using h1
              have d4 : decide (z ≤ 4) = true := by simpa using h4
              go_wp2_with fail
              go_meet
              exact ⟨true, by simp [d4], Lib.hid (fun _ => ⟨h1, h4⟩), hR, hN, hO⟩
            · have d1 : decide (1 ≤ z) = true := by simpa using h1
              have d4 : decide (z ≤ 4) = false := by simpa using h4
              go_wp2_with fail
              go_meet
              exact ⟨false, by simp [d4], Lib.hid (fun h => by cases h), hR, hN, hO⟩
          · have d1 : decide (1 ≤ z) = false := by simpa using h1
            go_wp2_with fail
            go_meet
            exact ⟨false, rfl, Lib.hid (fun h => by cases h), hR, hN, hO⟩
        case rest =>
        clear hR hN hO
        obtain ⟨t, rfl, ht, hR, hN, hO⟩ := hcut
        go_upto_if 110 with fail
        go_cut [] (fun wx => ∃ o : Rp, Hid o.U ∧ Rd w b (Q + 2) v' ys wx ∧ Nb w b v' p (rpC r) 56 wx ∧ Nb w b v' po (rpC o) 56 wx)
        case first =>
          cases t
          · go_wp2_with fail
            go_meet
            exact ⟨o, ho, hR, hN, hO⟩
          · obtain ⟨z1, z4⟩ := ht.out rfl
            have c0 := hO.blk.cell (i := 0) (v := .string ⟨o.node.toArray⟩) rfl
            have f0 := hO.blk.free 0
            have hpl := hO.blk.lt
            rcases (show z = 1 ∨ z = 2 ∨ z = 3 ∨ z = 4 by omega) with rfl | rfl | rfl | rfl
            all_goals
              clear z1 z4
              go_wp2_with fail
              go_meet
            · exact ⟨{ o with node := [110, 97] }, Lib.hid ⟨ho.out.1, ho.out.2.1, by simp⟩, (hR.turn hO (gb_cell1 _ _ _ _)).alloc _, (hN.turn (gb_cell1 _ _ _ _) hpo).alloc _, (hO.set 0 _).alloc _⟩
            · exact ⟨{ o with node := [110, 98] }, Lib.hid ⟨ho.out.1, ho.out.2.1, by simp⟩, (hR.turn hO (gb_cell1 _ _ _ _)).alloc _, (hN.turn (gb_cell1 _ _ _ _) hpo).alloc _, (hO.set 0 _).alloc _⟩
            · exact ⟨{ o with node := [110, 99] }, Lib.hid ⟨ho.out.1, ho.out.2.1, by simp⟩, (hR.turn hO (gb_cell1 _ _ _ _)).alloc _, (hN.turn (gb_cell1 _ _ _ _) hpo).alloc _, (hO.set 0 _).alloc _⟩
            · exact ⟨{ o with node := [110, 100] }, Lib.hid ⟨ho.out.1, ho.out.2.1, by simp⟩, (hR.turn hO (gb_cell1 _ _ _ _)).alloc _, (hN.turn (gb_cell1 _ _ _ _) hpo).alloc _, (hO.set 0 _).alloc _⟩
        case rest =>
        clear hR hN hO ho o
        obtain ⟨o, ho, hR, hN, hO⟩ := hcut
        go_upto_region 27 with fail
        go_cut [] (fun wx => ∃ o : Rp, Hid o.U ∧ Rd w b (Q + 1) v' ys wx ∧ Nb w b v' p (rpC r) 56 wx ∧ Nb w b v' po (rpC o) 56 wx)
        case first =>
          refine wi_tail (Φ := PhiA b p po 12 [0, 0, -1, -5, 1]) (J := JA w b (Q + 1) v' ys p po r o) (Rel := fun u u' => u.grownBy u' (some b)) 8 (by kernel_rfl) (by kernel_rfl) (by kernel_rfl) (by kernel_rfl) (by kernel_rfl)
            (by simp only [List.getElem?_toArray, List.getElem?_cons_succ, List.getElem?_cons_zero] <;> rfl) rfl (by rfl) (by kernel_rfl) (fun i v u u' hg h => PhiA.gb i v u u' hg h) ?j0 ?steps ?last
          case j0 => exact ⟨hR.below ⟨rfl, rfl, rfl, Nat.le_refl _, fun _ _ => rfl⟩, hN.below ⟨rfl, rfl, rfl, Nat.le_refl _, fun _ _ => rfl⟩, hO.below ⟨rfl, rfl, rfl, Nat.le_refl _, fun _ _ => rfl⟩⟩
          case steps =>
            intro i oo hi ho
            rename_i hKa Ja Ka hKb hKc
            clear hR hN hO hyl hQ' hlt' hlt hK4 hK3 hKa hKb hKc
            rcases i with _ | _ | _ | _ | _ | _ | _ | _ | i
            · simp only [List.getElem?_toArray, List.getElem?_cons_succ, List.getElem?_cons_zero] at ho
              obtain rfl := Option.some.inj ho
              intro listed vs a u hun hsz hJ hdep hfr K hK
              have e7 := (hfr 7 (by kernel_rfl)).trans (rfl : _ = Value.pointer (some ⟨p, 0, none⟩))
              clear hdep hfr
              go_simp
              exact hK _ _ (gb_refl _ _) rfl ⟨by rw [cntA_other (by decide)]; exact hJ.rd, hJ.n, hJ.o⟩
            · simp only [List.getElem?_toArray, List.getElem?_cons_succ, List.getElem?_cons_zero] at ho
              obtain rfl := Option.some.inj ho
              intro listed vs a u hun hsz hJ hdep hfr K hK
              obtain ⟨d0, g0⟩ := hdep 0 (by kernel_rfl)
              replace g0 := g0 116 rfl
              replace d0 : vs 0 = _ := d0
              rw [d0] at g0
              have c4 := hJ.n.blk.cell (i := 12) (v := .int .i64 r.pk) rfl
              clear hdep hfr
              go_simp
              exact hK _ _ (gb_refl _ _) ⟨_, rfl⟩ ⟨by rw [cntA_other (by decide)]; exact hJ.rd, hJ.n, hJ.o⟩
            · simp only [List.getElem?_toArray, List.getElem?_cons_succ, List.getElem?_cons_zero] at ho
              obtain rfl := Option.some.inj ho
              intro listed vs a u hun hsz hJ hdep hfr K hK
              have e0 := (hfr 0 (by kernel_rfl)).trans (rfl : _ = Value.pointer (some ⟨b, 0, none⟩))
              clear hdep hfr
              go_simp
              exact hK _ _ (gb_refl _ _) rfl ⟨by rw [cntA_other (by decide)]; exact hJ.rd, hJ.n, hJ.o⟩
            · simp only [List.getElem?_toArray, List.getElem?_cons_succ, List.getElem?_cons_zero] at ho
              obtain rfl := Option.some.inj ho
              intro listed vs a u hun hsz hJ hdep hfr K hK
              clear hdep hfr
              have hb : b < u.heap.size := hJ.rd.str.lt
              go_simp
              exact hK _ _ (World.grownBy_alloc _ _ _) ⟨u.heap.size, rfl, hb, Blk.new u (([0, 0, -1, -5, 1] : List Int).map (Value.int .i64)) 3⟩ ⟨by rw [cntA_other (by decide)]; exact hJ.rd.alloc _, hJ.n.alloc _, hJ.o.alloc _⟩
            · simp only [List.getElem?_toArray, List.getElem?_cons_succ, List.getElem?_cons_zero] at ho
              obtain rfl := Option.some.inj ho
              intro listed vs a u hun hsz hJ hdep hfr K hK
              obtain ⟨d2, g2⟩ := hdep 2 (by kernel_rfl)
              replace g2 := g2 118 rfl
              replace d2 : vs 2 = _ := d2
              rw [d2] at g2
              obtain ⟨d3, g3⟩ := hdep 3 (by kernel_rfl)
              replace g3 := g3 119 rfl
              obtain ⟨q, hq, hbq, hB⟩ := d3
              rw [hq] at g3
              have hs : Str u b (Q + 1 + cntA (listed.setIfInBounds 4 true) + 1) := by rw [Nat.add_assoc, cntA_one hun]; exact hJ.rd.str
              clear hdep hfr
              go_simp
              refine (pick_blk u b _ q _ _ [0, 0, -1, -5, 1] _ hs hbq hB rfl (by decide) (by decide) (fun _ => True) (by simp)).mono ?_
              rintro e u1 ⟨z, _, rfl, hs1, hg1⟩
              exact hK _ _ hg1 ⟨z, rfl⟩ ⟨hJ.rd.step hs1 hg1, hJ.n.step hg1, hJ.o.step hg1⟩
            · simp only [List.getElem?_toArray, List.getElem?_cons_succ, List.getElem?_cons_zero] at ho
              obtain rfl := Option.some.inj ho
              intro listed vs a u hun hsz hJ hdep hfr K hK
              obtain ⟨d1, g1⟩ := hdep 1 (by kernel_rfl)
              replace g1 := g1 117 rfl
              obtain ⟨d4, g4⟩ := hdep 4 (by kernel_rfl)
              replace g4 := g4 120 rfl
              obtain ⟨z1, v1⟩ := d1
              obtain ⟨z4, v4⟩ := d4
              rw [v1] at g1
              rw [v4] at g4
              clear hdep hfr
              go_simp
              exact hK _ _ (gb_refl _ _) ⟨_, rfl⟩ ⟨by rw [cntA_other (by decide)]; exact hJ.rd, hJ.n, hJ.o⟩
            · simp only [List.getElem?_toArray, List.getElem?_cons_succ, List.getElem?_cons_zero] at ho
              obtain rfl := Option.some.inj ho
              intro listed vs a u hun hsz hJ hdep hfr K hK
              obtain ⟨d5, g5⟩ := hdep 5 (by kernel_rfl)
              replace g5 := g5 121 rfl
              obtain ⟨z5, v5⟩ := d5
              rw [v5] at g5
              clear hdep hfr
              go_simp
              exact hK _ _ (gb_refl _ _) ⟨_, rfl⟩ ⟨by rw [cntA_other (by decide)]; exact hJ.rd, hJ.n, hJ.o⟩
            · simp only [List.getElem?_toArray, List.getElem?_cons_succ, List.getElem?_cons_zero] at ho
              obtain rfl := Option.some.inj ho
              intro listed vs a u hun hsz hJ hdep hfr K hK
              have e10 := (hfr 10 (by kernel_rfl)).trans (rfl : _ = Value.pointer (some ⟨po, 0, none⟩))
              clear hdep hfr
              go_simp
              exact hK _ _ (gb_refl _ _) rfl ⟨by rw [cntA_other (by decide)]; exact hJ.rd, hJ.n, hJ.o⟩
            · omega
          case last =>
            intro listed vs u hsz hall hJ hP A hA hdep hfr K hK
            obtain ⟨z, v6⟩ := hP 6 (by decide)
            have v7 : vs 7 = .pointer (some ⟨po, 12, none⟩) := hP 7 (by decide)
            have e6 := (eval_tmp A 122).trans ((hdep 6 122 rfl (by decide)).trans v6)
            have e7 := (eval_tmp A 123).trans ((hdep 7 123 rfl (by decide)).trans v7)
            have c := hJ.o.blk.cell (i := 12) (v := .int .i64 o.pk) rfl
            have f := hJ.o.blk.free 12
            refine wp_stInt e7 e6 c f (fun v => hK _ _ ?_)
            have hrow := gb_cell1 u po 12 (.int .i64 z)
            have hJ1 := hJ.rd.turn hJ.o hrow
            have hJ2 := hJ.n.turn hrow hpo
            have hJ3 : Nb w b v' po (rpC { o with pk := z }) 56 (u.setCell ⟨po, 12, none⟩ (.int .i64 z)) := hJ.o.set 12 (.int .i64 z)
            clear hdep hfr hP hall hsz hrow e7 e6 hR hN hO c f
            rw [hA.out]
            simp only [putL, Act.put, List.setIfInBounds_toArray, List.set_cons_zero, List.set_cons_succ, Nat.zero_add, Nat.reduceAdd]
            clear hJ hA v6 v7
            go_wp2_with fail
            go_meet
            exact ⟨{ o with pk := z }, Lib.hid ho.out, hJ1.le (by omega), hJ2, hJ3⟩
        case rest =>
        clear hR hN hO ho o
        obtain ⟨o, ho, hR, hN, hO⟩ := hcut
        go_upto_region 28 with fail
        go_cut [] (fun wx => ∃ o : Rp, Hid o.U ∧ Rd w b Q v' ys wx ∧ Nb w b v' p (rpC r) 56 wx ∧ Nb w b v' po (rpC o) 56 wx)
        case first =>
          refine wi_tail (Φ := PhiA b p po 13 [0, -50, -1, 20]) (J := JA w b (Q) v' ys p po r o) (Rel := fun u u' => u.grownBy u' (some b)) 8 (by kernel_rfl) (by kernel_rfl) (by kernel_rfl) (by kernel_rfl) (by kernel_rfl)
            (by simp only [List.getElem?_toArray, List.getElem?_cons_succ, List.getElem?_cons_zero] <;> rfl) rfl (by rfl) (by kernel_rfl) (fun i v u u' hg h => PhiA.gb i v u u' hg h) ?j0 ?steps ?last
          case j0 => exact ⟨hR.below ⟨rfl, rfl, rfl, Nat.le_refl _, fun _ _ => rfl⟩, hN.below ⟨rfl, rfl, rfl, Nat.le_refl _, fun _ _ => rfl⟩, hO.below ⟨rfl, rfl, rfl, Nat.le_refl _, fun _ _ => rfl⟩⟩
          case steps =>
            intro i oo hi ho
            rename_i hKa Ja Ka hKb hKc
            clear hR hN hO hyl hQ' hlt' hlt hK4 hK3 hKa hKb hKc
            rcases i with _ | _ | _ | _ | _ | _ | _ | _ | i
            · simp only [List.getElem?_toArray, List.getElem?_cons_succ, List.getElem?_cons_zero] at ho
              obtain rfl := Option.some.inj ho
              intro listed vs a u hun hsz hJ hdep hfr K hK
              have e7 := (hfr 7 (by kernel_rfl)).trans (rfl : _ = Value.pointer (some ⟨p, 0, none⟩))
              clear hdep hfr
              go_simp
              exact hK _ _ (gb_refl _ _) rfl ⟨by rw [cntA_other (by decide)]; exact hJ.rd, hJ.n, hJ.o⟩
            · simp only [List.getElem?_toArray, List.getElem?_cons_succ, List.getElem?_cons_zero] at ho
              obtain rfl := Option.some.inj ho
              intro listed vs a u hun hsz hJ hdep hfr K hK
              obtain ⟨d0, g0⟩ := hdep 0 (by kernel_rfl)
              replace g0 := g0 124 rfl
              replace d0 : vs 0 = _ := d0
              rw [d0] at g0
              have c4 := hJ.n.blk.cell (i := 13) (v := .int .i64 r.by_) rfl
              clear hdep hfr
              go_simp
              exact hK _ _ (gb_refl _ _) ⟨_, rfl⟩ ⟨by rw [cntA_other (by decide)]; exact hJ.rd, hJ.n, hJ.o⟩
            · simp only [List.getElem?_toArray, List.getElem?_cons_succ, List.getElem?_cons_zero] at ho
              obtain rfl := Option.some.inj ho
              intro listed vs a u hun hsz hJ hdep hfr K hK
              have e0 := (hfr 0 (by kernel_rfl)).trans (rfl : _ = Value.pointer (some ⟨b, 0, none⟩))
              clear hdep hfr
              go_simp
              exact hK _ _ (gb_refl _ _) rfl ⟨by rw [cntA_other (by decide)]; exact hJ.rd, hJ.n, hJ.o⟩
            · simp only [List.getElem?_toArray, List.getElem?_cons_succ, List.getElem?_cons_zero] at ho
              obtain rfl := Option.some.inj ho
              intro listed vs a u hun hsz hJ hdep hfr K hK
              clear hdep hfr
              have hb : b < u.heap.size := hJ.rd.str.lt
              go_simp
              exact hK _ _ (World.grownBy_alloc _ _ _) ⟨u.heap.size, rfl, hb, Blk.new u (([0, -50, -1, 20] : List Int).map (Value.int .i64)) 3⟩ ⟨by rw [cntA_other (by decide)]; exact hJ.rd.alloc _, hJ.n.alloc _, hJ.o.alloc _⟩
            · simp only [List.getElem?_toArray, List.getElem?_cons_succ, List.getElem?_cons_zero] at ho
              obtain rfl := Option.some.inj ho
              intro listed vs a u hun hsz hJ hdep hfr K hK
              obtain ⟨d2, g2⟩ := hdep 2 (by kernel_rfl)
              replace g2 := g2 126 rfl
              replace d2 : vs 2 = _ := d2
              rw [d2] at g2
              obtain ⟨d3, g3⟩ := hdep 3 (by kernel_rfl)
              replace g3 := g3 127 rfl
              obtain ⟨q, hq, hbq, hB⟩ := d3
              rw [hq] at g3
              have hs : Str u b (Q + cntA (listed.setIfInBounds 4 true) + 1) := by rw [Nat.add_assoc, cntA_one hun]; exact hJ.rd.str
              clear hdep hfr
              go_simp
              refine (pick_blk u b _ q _ _ [0, -50, -1, 20] _ hs hbq hB rfl (by decide) (by decide) (fun _ => True) (by simp)).mono ?_
              rintro e u1 ⟨z, _, rfl, hs1, hg1⟩
              exact hK _ _ hg1 ⟨z, rfl⟩ ⟨hJ.rd.step hs1 hg1, hJ.n.step hg1, hJ.o.step hg1⟩
            · simp only [List.getElem?_toArray, List.getElem?_cons_succ, List.getElem?_cons_zero] at ho
              obtain rfl := Option.some.inj ho
              intro listed vs a u hun hsz hJ hdep hfr K hK
              obtain ⟨d1, g1⟩ := hdep 1 (by kernel_rfl)
              replace g1 := g1 125 rfl
              obtain ⟨d4, g4⟩ := hdep 4 (by kernel_rfl)
              replace g4 := g4 128 rfl
              obtain ⟨z1, v1⟩ := d1
              obtain ⟨z4, v4⟩ := d4
              rw [v1] at g1
              rw [v4] at g4
              clear hdep hfr
              go_simp
              exact hK _ _ (gb_refl _ _) ⟨_, rfl⟩ ⟨by rw [cntA_other (by decide)]; exact hJ.rd, hJ.n, hJ.o⟩
            · simp only [List.getElem?_toArray, List.getElem?_cons_succ, List.getElem?_cons_zero] at ho
              obtain rfl := Option.some.inj ho
              intro listed vs a u hun hsz hJ hdep hfr K hK
              obtain ⟨d5, g5⟩ := hdep 5 (by kernel_rfl)
              replace g5 := g5 129 rfl
              obtain ⟨z5, v5⟩ := d5
              rw [v5] at g5
              clear hdep hfr
              go_simp
              exact hK _ _ (gb_refl _ _) ⟨_, rfl⟩ ⟨by rw [cntA_other (by decide)]; exact hJ.rd, hJ.n, hJ.o⟩
            · simp only [List.getElem?_toArray, List.getElem?_cons_succ, List.getElem?_cons_zero] at ho
              obtain rfl := Option.some.inj ho
              intro listed vs a u hun hsz hJ hdep hfr K hK
              have e10 := (hfr 10 (by kernel_rfl)).trans (rfl : _ = Value.pointer (some ⟨po, 0, none⟩))
              clear hdep hfr
              go_simp
              exact hK _ _ (gb_refl _ _) rfl ⟨by rw [cntA_other (by decide)]; exact hJ.rd, hJ.n, hJ.o⟩
            · omega
          case last =>
            intro listed vs u hsz hall hJ hP A hA hdep hfr K hK
            obtain ⟨z, v6⟩ := hP 6 (by decide)
            have v7 : vs 7 = .pointer (some ⟨po, 13, none⟩) := hP 7 (by decide)
            have e6 := (eval_tmp A 130).trans ((hdep 6 130 rfl (by decide)).trans v6)
            have e7 := (eval_tmp A 131).trans ((hdep 7 131 rfl (by decide)).trans v7)
            have c := hJ.o.blk.cell (i := 13) (v := .int .i64 o.by_) rfl
            have f := hJ.o.blk.free 13
            refine wp_stInt e7 e6 c f (fun v => hK _ _ ?_)
            have hrow := gb_cell1 u po 13 (.int .i64 z)
            have hJ1 := hJ.rd.turn hJ.o hrow
            have hJ2 := hJ.n.turn hrow hpo
            have hJ3 : Nb w b v' po (rpC { o with by_ := z }) 56 (u.setCell ⟨po, 13, none⟩ (.int .i64 z)) := hJ.o.set 13 (.int .i64 z)
            clear hdep hfr hP hall hsz hrow e7 e6 hR hN hO c f
            rw [hA.out]
            simp only [putL, Act.put, List.setIfInBounds_toArray, List.set_cons_zero, List.set_cons_succ, Nat.zero_add, Nat.reduceAdd]
            clear hJ hA v6 v7
            go_wp2_with fail
            go_meet
            exact ⟨{ o with by_ := z }, Lib.hid ho.out, hJ1.le (by omega), hJ2, hJ3⟩
        case rest =>
        clear hR hN hO ho o
        obtain ⟨o, ho, hR, hN, hO⟩ := hcut
        have lo := hO.blk.ld rowRp (rpC_len o)
        have hxl2 : ys.length + [o].length ≤ 1000000 := by have := hyl.out; simp; omega
        have hsz := hR.base.size
        go_wp2_with (at_builtin; refine wpList_app tyeRp rfl _ _ rfl w.heap.size _ ys [o] rfl (hR.own.below ((Below.refl _ _).alloc (Nat.le_refl _) _)) ⟨_, 0, none⟩ 1 1 rfl rfl ?d1 ?d2 ?d3 ?_)
        case d1 => exact cell_row_at _ _ _ _ rfl
        case d2 => exact hxl2
        case d3 => simp; omega
        intro v2 w4' hown4 hg4 hv4
        have hR4 : Rd w b Q v2 (ys ++ [o]) w4' := hR.app (fun y hy => by rw [List.mem_singleton.1 hy]; exact ho.out) _ hown4 hg4
        clear hR hN hO hown4 hg4 hv4 lo hsz hxl2
        have hzl : Hid ((ys ++ [o]).length ≤ 2 * (k + 1)) := Lib.hid (by have := hyl.out; simp; omega)
        generalize ys ++ [o] = zs at *
        go_wp2_with fail
        go_roundw
        case rel => exact ⟨k + 1, zs, by omega, by go_num, hR4.le (by have := hQ'.out; omega), hzl⟩
        case measure => simp [intOf]; omega
    · have hkm : k = m := by omega
      subst hkm
      replace hR := hR.le (R' := R + 21) (by omega)
      obtain ⟨A5, c5, hv5, _⟩ := hR.own.sl
      obtain ⟨L, hL⟩ : ∃ L, L = xs.length := ⟨_, rfl⟩
      have hL10 : L ≤ 2 * k := by have := hxl.out; omega
      rw [← hL] at hv5
      subst hv5
      have HS := Lib.hid (stableAll_any w.heap.size A5 L c5 _ rfl xs wr hR.own hR.U hR.base.size hL (by omega))
      replace hL := Lib.hid hL
      clear hk hlt hxl
      go_wp2_with fail
      refine HS.out.mono ?_
      intro e w2 hq
      obtain ⟨rfl, qs, hp, _, hown, hb⟩ := hq
      have hlw := hR.lt
      have hR2 : Rd w b (R + 21) (.slice A5 L c5) qs w2 := ⟨hR.str.upto fun j hj => hb.block j (by omega), hown, gb_bel hR.base hb (Nat.le_refl _), fun x hx => hR.U x (hp.mem_iff.1 hx), hR.lt⟩
      have hql : qs.length ≤ 2 * k := by rw [hp.length_eq, ← hL.out]; exact hL10
      clear HS hb hown hR hp hL
      have HF := Lib.hid (compactFAll_any w.heap.size (.slice A5 L c5) qs w2 hR2.own hR2.U (by omega) hR2.base.size)
      go_wp2_with fail
      refine HF.out.mono ?_
      intro e w3 hq
      obtain ⟨A, n, cap, zs, rfl, hO, hzl, hmem, hb⟩ := hq
      have hst := hR2.str.upto (w' := w3) fun j hj => hb.block j (by omega)
      have hgb := gb_bel hR2.base hb (Nat.le_refl _)
      have hUz := Lib.hid (fun x (hx : x ∈ zs) => hR2.U x (hmem x hx))
      have hn10 : n ≤ 2 * k := by have := hO.1; omega
      clear HF hb hmem hR2 hzl hql
      by_cases hn0 : n = 0
      · subst hn0
        replace hO := Lib.hid hO
        replace hst := hst.le (R' := R) (by omega)
        go_wp2_with fail
        go_ret
        exact ⟨A, 0, cap, zs, rfl, hO.out, hUz.out, by omega, hst, hgb⟩
      have hnp : (0 : Int) < n := by omega
      have hnp' : 0 < n := by omega
      clear hn0
      go_wp2_with fail
      refine (flip_any _ _ _ (R + 20) (by omega) (by omega) hst).mono ?_
      rintro e w4 ⟨r9, rfl, hs1, hg1⟩
      replace hst := hs1
      replace hgb := gb_trans hgb hg1
      replace hO := hO.gb hg1 hlw
      clear hs1 hg1
      cases r9
      · replace hO := Lib.hid hO
        replace hst := hst.le (R' := R) (by omega)
        go_wp2_with fail
        go_ret
        exact ⟨A, n, cap, zs, rfl, hO.out, hUz.out, hn10, hst, hgb⟩
      obtain ⟨hnl, hnc, hO⟩ := hO
      obtain ⟨g, n0, c0, hA, hQ⟩ : ∃ g n0 c0, A = some ⟨g, 0, none⟩ ∧ OwnR w.heap.size w4 g n0 c0 zs := by
        rcases hO with ⟨h0, _⟩ | h
        · rw [h0] at hnl; simp at hnl; omega
        · exact h
      clear hO
      subst hA
      have hO := hQ
      clear hQ
      replace hnl := Lib.hid hnl
      have hgl := hO.lt
      go_wp2_with fail
      refine (next_any _ _ _ (R + 19) (by omega) (by omega) hst).mono ?_
      rintro e w5 ⟨i, ⟨hi1, hi2⟩, rfl, hs1, hg1⟩
      replace hst := hs1
      replace hgb := gb_trans hgb hg1
      replace hO := hO.gb hg1 (by intro e; cases e; omega)
      clear hs1 hg1
      obtain ⟨j, rfl⟩ := Int.eq_ofNat_of_zero_le hi1
      have hj : j < n := by omega
      obtain ⟨x, hx⟩ : ∃ x, zs[j]? = some x := ⟨zs[j]'(by have := hnl.out; omega), List.getElem?_eq_getElem _⟩
      have hxU := Lib.hid (hUz.out x (List.mem_of_getElem? hx))
      replace hx := Lib.hid hx
      go_wp2_with fail
      refine (next_any _ _ _ (R + 18) (by omega) (by omega) hst).mono ?_
      rintro e w6 ⟨q, ⟨hq1, hq2⟩, rfl, hs1, hg1⟩
      replace hst := hs1
      replace hgb := gb_trans hgb hg1
      replace hO := hO.gb hg1 (by intro e; cases e; omega)
      clear hs1 hg1 hi1 hi2
      rcases (show q = 0 ∨ q = 1 ∨ q = 2 ∨ q = 3 ∨ q = 4 by omega) with rfl | rfl | rfl | rfl | rfl
      · clear hq1 hq2
        have hB := Blk.new w6 [.string ⟨#[]⟩, .string ⟨#[65]⟩, .string ⟨#[110, 97]⟩] 9
        have hbl6 : b < w6.heap.size := hst.lt
        go_wp2_with fail
        refine (some_any _ b R _ _ _ 40 [.string ⟨#[]⟩, .string ⟨#[65]⟩, .string ⟨#[110, 97]⟩] _ ((hst.alloc _).le (by omega)) hbl6 hB rfl (by decide) (by decide) (by rfl)).mono ?_
        rintro e w7 ⟨l, hl, rfl, hs1, hg1⟩
        replace hst := hs1
        replace hO := (hO.gb (World.grownBy_alloc w6 _ none) (by intro e; cases e)).gb hg1 (by intro e; cases e; omega)
        replace hgb := gb_trans (gb_alloc hgb _) hg1
        clear hs1 hg1 hB hbl6
        have c := hO.cell hx.out (i := 0) (v := .string ⟨x.node.toArray⟩) rfl
        have f := hO.free (j * 14 + 0)
        rw [Nat.add_zero] at c f
        have hP := Lib.hid (RpsPost.put hO hnl.out hnc hn10 hUz.out hst hgb hlw hx.out 0 [.string ⟨l.toArray⟩] (by simp) { x with node := l } rfl ⟨hxU.out.1, hxU.out.2.1, Nat.le_trans hl (by decide)⟩)
        clear hO hst hgb hl
        go_wp2_with fail
        go_ret
        exact hP.out
      · clear hq1 hq2
        go_wp2_with fail
        refine (odd_any 0 96023 _ b R (by omega) (by omega) (by omega) (hst.le (by omega))).mono ?_
        rintro e w7 ⟨z, hz, rfl, hs1, hg1⟩
        replace hst := hs1
        replace hO := hO.gb hg1 (by intro e; cases e; omega)
        replace hgb := gb_trans hgb hg1
        clear hs1 hg1
        have c := hO.cell hx.out (i := 1) (v := .int .i64 x.hour) rfl
        have f := hO.free (j * 14 + 1)
        have hP := Lib.hid (RpsPost.put hO hnl.out hnc hn10 hUz.out hst hgb hlw hx.out 1 [.int .i64 z] (by simp) { x with hour := z } rfl ⟨hxU.out.1, (⟨by omega, by omega⟩ : i60 z), hxU.out.2.2⟩)
        clear hO hst hgb hz
        go_wp2_with fail
        go_ret
        exact hP.out
      · clear hq1 hq2
        go_wp2_with fail
        refine (flow_any _ b R hst).mono ?_
        rintro e w7 ⟨pp, fs, fh, fl, ts, th, tl, aa, cc, hUf, hVf, rfl, hs1, hg1⟩
        replace hst := hs1
        replace hO := hO.gb hg1 (by intro e; cases e; omega)
        replace hgb := gb_trans hgb hg1
        clear hs1 hg1
        have hfU : Fl.U ⟨pp, ⟨fs, fh, fl⟩, ⟨ts, th, tl⟩, aa, cc⟩ := ⟨⟨hUf.1, hUf.2.1⟩, ⟨hUf.2.2.1, hUf.2.2.2⟩, hVf.1, hVf.2.1, hVf.2.2⟩
        have S : (stT 54 (.pointer (some ⟨g, j * 14 + 3, none⟩)) (flV pp fs fh fl ts th tl aa cc)).run Tryz.prog w7 = .ok .skip (w7.setCells g (j * 14 + 3) (flC ⟨pp, ⟨fs, fh, fl⟩, ⟨ts, th, tl⟩, aa, cc⟩)) := hO.stFl hx.out ⟨pp, ⟨fs, fh, fl⟩, ⟨ts, th, tl⟩, aa, cc⟩
        have hP := Lib.hid (RpsPost.put hO hnl.out hnc hn10 hUz.out hst hgb hlw hx.out 3 (flC ⟨pp, ⟨fs, fh, fl⟩, ⟨ts, th, tl⟩, aa, cc⟩) (by rw [flC_len]; decide) { x with fl := ⟨pp, ⟨fs, fh, fl⟩, ⟨ts, th, tl⟩, aa, cc⟩ } rfl ⟨hfU, hxU.out.2⟩)
        clear hO hst hgb hUf hVf hfU
        go_wp2_with fail
        go_ret
        exact hP.out
      · clear hq1 hq2
        go_wp2_with fail
        refine (odd_any 1 1000000000000 _ b R (by omega) (by omega) (by omega) (hst.le (by omega))).mono ?_
        rintro e w7 ⟨z, hz, rfl, hs1, hg1⟩
        replace hst := hs1
        replace hO := hO.gb hg1 (by intro e; cases e; omega)
        replace hgb := gb_trans hgb hg1
        clear hs1 hg1
        have c := hO.cell hx.out (i := 12) (v := .int .i64 x.pk) rfl
        have f := hO.free (j * 14 + 12)
        have hP := Lib.hid (RpsPost.put hO hnl.out hnc hn10 hUz.out hst hgb hlw hx.out 12 [.int .i64 z] (by simp) { x with pk := z } rfl hxU.out)
        clear hO hst hgb hz
        go_wp2_with fail
        go_ret
        exact hP.out
      · clear hq1 hq2
        go_wp2_with fail
        refine (odd_any 0 1000000000000 _ b R (by omega) (by omega) (by omega) (hst.le (by omega))).mono ?_
        rintro e w7 ⟨z, hz, rfl, hs1, hg1⟩
        replace hst := hs1
        replace hO := hO.gb hg1 (by intro e; cases e; omega)
        replace hgb := gb_trans hgb hg1
        clear hs1 hg1
        have c := hO.cell hx.out (i := 13) (v := .int .i64 x.by_) rfl
        have f := hO.free (j * 14 + 13)
        have hP := Lib.hid (RpsPost.put hO hnl.out hnc hn10 hUz.out hst hgb hlw hx.out 13 [.int .i64 z] (by simp) { x with by_ := z } rfl hxU.out)
        clear hO hst hgb hz
        go_wp2_with fail
        go_ret
        exact hP.out
end Go.Proofs.YtfiocnjogbpgoaaGreatDoor
