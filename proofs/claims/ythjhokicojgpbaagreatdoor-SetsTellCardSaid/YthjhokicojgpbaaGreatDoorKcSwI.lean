/- Sets: Size. -/
import Derived.Test.YthjhokicojgpbaaGreatDoorKcSwK
import Derived.Test.YthjhokicojgpbaaGreatDoorKcSuE
import Derived.Test.YthjhokicojgpbaaGreatDoorKcWaysB
import Derived.Test.YthjhokicojgpbaaGreatDoorKcStT
import Derived.Test.YthjhokicojgpbaaGreatDoorKcStX
import Derived.Test.YthjhokicojgpbaaGreatDoorKcStY
namespace Go.Proofs.YthjhokicojgpbaaGreatDoor
open Go.RowKit
set_option linter.unusedVariables false
set_option linter.unusedSimpArgs false

section
variable (ρ : Operand → Value) (dst : Option Tmp) (x : Operand) (ty : TypeId) (pos : String) (after : Array Edge) (guard : Option (Nat × Bool))
@[go_sem ↓ high] theorem execOp_ldC : execOp ρ ⟨dst, .load 113 x, ty, pos, after, guard⟩ = ldT 113 (ρ x) := rfl
@[go_sem high] theorem execOp_ldC' : execOp ρ ⟨dst, .load 113 x, ty, pos, after, guard⟩ = ldT 113 (ρ x) := rfl
def bdC : Sem Next := do
  let v ← Instr.build 113 #[]
  pure (.value v)
@[go_sem ↓ high] theorem execOp_bdC : execOp ρ ⟨dst, .build 113 #[], ty, pos, after, guard⟩ = bdC := by
  simp only [execOp, bdC, List.map_toArray, List.map_nil]
@[go_sem high] theorem execOp_bdC' : execOp ρ ⟨dst, .build 113 #[], ty, pos, after, guard⟩ = bdC := by
  simp only [execOp, bdC, List.map_toArray, List.map_nil]
end
@[go_sem] theorem run_bdC (w : World) : bdC.run Tryz.prog w = .ok (.value (.agg (cntC 0).toArray)) w := by
  kernel_rfl
attribute [local go_sem] run_neqC
set_option maxRecDepth 100000 in
set_option maxHeartbeats 4000000 in
theorem text_any (C : Nat) (w : World) (hC : C < 2 ^ 192) :
    Calls Tryz.prog 95 #[.agg (cntC C).toArray] w fun e w' => e = .returned (.string (decS C)) ∧ Below w.heap.size w w' := by
  replace hC := Lib.hid hC
  have hown : OwnE eBy 5 (w.heap.size + 1) (w.alloc (.cells (cntC C).toArray 113)) (.slice none 0 0) [] := OwnE.nil _ _
  have hbk := Blk.new w (cntC C) 113
  have hbw : Below w.heap.size w (w.alloc (.cells (cntC C).toArray 113)) := (Below.refl _ _).alloc (Nat.le_refl _) _
  go_enter Tryz.func95, Tryz.ntmps95
  go_wp2_with fail
  go_loopw [3] (fun v wr => ∃ (X : Nat) (ds : List Nat), Hid (DgI C X ds ∧ X < 2 ^ 192 ∧ ds.length ≤ 58) ∧ OwnE eBy 5 (w.heap.size + 1) wr v (ds.map (48 + ·)) ∧ Blk wr w.heap.size (cntC X) 113 ∧ Below w.heap.size w wr) (fun v _ => 60 - slLen v)
  case atStart => exact ⟨C, [], Lib.hid ⟨DgI.start C, hC.out, Nat.zero_le _⟩, hown, hbk, hbw⟩
  case round =>
    clear hown hbk hbw
    obtain ⟨X, ds, hI, hown, hbk, hbw⟩ := hrel
    obtain ⟨A, cap, rfl, hS⟩ := hown.sl
    have hlen : (ds.map (48 + ·)).length = ds.length := List.length_map _
    rw [hlen] at hown hS ⊢
    by_cases hc : ds = [] ∨ X ≠ 0
    · obtain ⟨x0, x1, x2, q0, q1, q2, r1, r2, r0, eX, eQ, m1, m2, m3, m4, m5, m6, er, b1, b2, z0, z1, z2⟩ := cnt_div X hI.out.2.1
      have D2 := fun w' => Lib.hid (div_is 0 x2 q2 r2 w' (by omega) (by omega) z2.1 z2.2 m1 m2)
      have D1 := fun w' => Lib.hid (div_is r2 x1 q1 r1 w' b2.1 b2.2 z1.1 z1.2 m3 m4)
      have D0 := fun w' => Lib.hid (div_is r1 x0 q0 r0 w' b1.1 b1.2 z0.1 z0.2 m5 m6)
      clear m1 m2 m3 m4 m5 m6 b1 b2 z0 z1 z2
      obtain ⟨b, hb48⟩ : ∃ b : Nat, b = 48 + X % 10 := ⟨_, rfl⟩
      have u1 : IntKind.u64.wrap (48 + r0) = (b : Int) := by rw [IntKind.wrap_u64]; omega
      have u2 : IntKind.u8.wrap (b : Int) = b := by rw [IntKind.wrap_u8]; omega
      have hI2 := Lib.hid (hI.out.1.step hc)
      have hlt2 := Lib.hid (show X / 10 < 2 ^ 192 from Nat.lt_of_le_of_lt (Nat.div_le_self _ _) hI.out.2.1)
      have hlt58 := Lib.hid (show ds.length < 58 by
        rcases hc with e | e
        · rw [e]; decide
        · exact hI.out.1.len hC.out e)
      have hmap := Lib.hid (show (ds ++ [X % 10]).map (48 + ·) = ds.map (48 + ·) ++ [b] by rw [List.map_append, hb48]; rfl)
      have hq := Lib.hid (show X ≠ 0 → eqC X 0 = false by
        intro e
        rw [eqC_zero hI.out.2.1]
        exact decide_eq_false e)
      clear hI hS er
      replace hb48 := Lib.hid hb48
      have hld := hbk.ld rowCnt rfl
      rw [eX] at hbk
      replace eX := Lib.hid eX
      replace eQ := Lib.hid eQ
      obtain ⟨n, hn⟩ : ∃ n, n = ds.length := ⟨_, rfl⟩
      rw [← hn] at hown ⊢
      replace hn := Lib.hid hn
      rcases Nat.eq_zero_or_pos n with h0 | h0
      · subst h0
        clear hq hc
        go_wp2_with fail
        clear hld
        refine wp_loop_rounds 4 ?_
        rw [rounds_succ]
        have c2 : World.cell? wr ⟨w.heap.size, 2, none⟩ = some (.int .u64 x2) := hbk.cell (i := 2) rfl
        go_wp2_with fail
        refine (D2 _).out.mono ?_
        rintro e w2 ⟨rfl, hb⟩
        replace hbk := hbk.below hb
        replace hown := hown.below hb
        replace hbw := hbw.trans (hb.mono hbw.size)
        clear hb c2
        have c2 : World.cell? w2 ⟨w.heap.size, 2, none⟩ = some (.int .u64 x2) := hbk.cell (i := 2) rfl
        have f2 : World.frozen? w2 ⟨w.heap.size, 2, none⟩ = false := hbk.free 2
        replace hbk := hbk.set 2 (.int .u64 q2)
        replace hown := own_setC hown (Nat.lt_succ_self _) 2 (.int .u64 q2)
        replace hbw := hbw.setCell (p := ⟨w.heap.size, 2, none⟩) (Nat.le_refl _) (.int .u64 q2)
        go_wp2_with fail
        clear c2 f2
        generalize World.setCell w2 _ _ = v2 at *
        rw [rounds_succ]
        have c1 : World.cell? v2 ⟨w.heap.size, 1, none⟩ = some (.int .u64 x1) := hbk.cell (i := 1) rfl
        go_wp2_with fail
        refine (D1 _).out.mono ?_
        rintro e w1 ⟨rfl, hb⟩
        replace hbk := hbk.below hb
        replace hown := hown.below hb
        replace hbw := hbw.trans (hb.mono hbw.size)
        clear hb c1
        have c1 : World.cell? w1 ⟨w.heap.size, 1, none⟩ = some (.int .u64 x1) := hbk.cell (i := 1) rfl
        have f1 : World.frozen? w1 ⟨w.heap.size, 1, none⟩ = false := hbk.free 1
        replace hbk := hbk.set 1 (.int .u64 q1)
        replace hown := own_setC hown (Nat.lt_succ_self _) 1 (.int .u64 q1)
        replace hbw := hbw.setCell (p := ⟨w.heap.size, 1, none⟩) (Nat.le_refl _) (.int .u64 q1)
        go_wp2_with fail
        clear c1 f1
        generalize World.setCell w1 _ _ = v1 at *
        rw [rounds_succ]
        have c0 : World.cell? v1 ⟨w.heap.size, 0, none⟩ = some (.int .u64 x0) := hbk.cell (i := 0) rfl
        go_wp2_with fail
        refine (D0 _).out.mono ?_
        rintro e w0 ⟨rfl, hb⟩
        replace hbk := hbk.below hb
        replace hown := hown.below hb
        replace hbw := hbw.trans (hb.mono hbw.size)
        clear hb c0
        have c0 : World.cell? w0 ⟨w.heap.size, 0, none⟩ = some (.int .u64 x0) := hbk.cell (i := 0) rfl
        have f0 : World.frozen? w0 ⟨w.heap.size, 0, none⟩ = false := hbk.free 0
        replace hbk := hbk.set 0 (.int .u64 q0)
        replace hown := own_setC hown (Nat.lt_succ_self _) 0 (.int .u64 q0)
        replace hbw := hbw.setCell (p := ⟨w.heap.size, 0, none⟩) (Nat.le_refl _) (.int .u64 q0)
        go_wp2_with fail
        clear c0 f0
        generalize World.setCell w0 _ _ = v0 at *
        rw [rounds_succ]
        go_wp2_with (at_builtin; refine wpList_app tyeBy rfl _ _ rfl (w.heap.size + 1) _ _ [b] rfl (hown.alloc' _) ⟨_, 0, none⟩ 1 1 rfl rfl ?c1 ?c2 ?c3 ?_)
        case c1 => exact cell_row_at _ _ _ _ rfl
        case c2 => have := hlt58.out; simp; omega
        case c3 => have := hbk.lt; simp; omega
        intro v8 x8 hown8 hg8 _
        have hb8 : Below w.heap.size w x8 := (hbw.alloc hbw.size _).grown hg8 (by have := hbw.size; simp; omega) (fun k h => by have := (hown.lt k h).1; omega)
        have hbk8 : Blk x8 w.heap.size (cntC (X / 10)) 113 := by
          rw [eQ.out]
          exact (hg8.block _ (hbk.alloc _).lt (fun e => by have := (hown.lt _ e.symm).1; omega)).trans (hbk.alloc _)
        have hown9 : OwnE eBy 5 (w.heap.size + 1) x8 v8 ((ds ++ [X % 10]).map (48 + ·)) := by rw [hmap.out]; exact hown8
        obtain ⟨A8, cap8, rfl, _⟩ := hown9.sl
        have hl8 := Lib.hid (show ((ds ++ [X % 10]).map (48 + ·)).length = ds.length + 1 by simp)
        clear hown hbk hbw hown8 hg8
        go_wp2_with fail
        go_roundw
        case rel => exact ⟨X / 10, ds ++ [X % 10], Lib.hid ⟨hI2.out, hlt2.out, by rw [List.length_append]; exact hlt58.out⟩, hown9, hbk8, hb8⟩
        case measure =>
          have h1 := hn.out
          have h2 := hlt58.out
          have h3 := hl8.out
          simp only [slLen]
          omega

      · have hn0 : ¬ (n : Int) = 0 := by omega
        have hX0 : X ≠ 0 := by
          rcases hc with e | e
          · exfalso; have := hn.out; rw [e] at this; simp at this; omega
          · exact e
        have hq := hq.out hX0
        clear hc h0 hX0
        go_wp2_with fail
        clear hld
        refine wp_loop_rounds 4 ?_
        rw [rounds_succ]
        have c2 : World.cell? wr ⟨w.heap.size, 2, none⟩ = some (.int .u64 x2) := hbk.cell (i := 2) rfl
        go_wp2_with fail
        refine (D2 _).out.mono ?_
        rintro e w2 ⟨rfl, hb⟩
        replace hbk := hbk.below hb
        replace hown := hown.below hb
        replace hbw := hbw.trans (hb.mono hbw.size)
        clear hb c2
        have c2 : World.cell? w2 ⟨w.heap.size, 2, none⟩ = some (.int .u64 x2) := hbk.cell (i := 2) rfl
        have f2 : World.frozen? w2 ⟨w.heap.size, 2, none⟩ = false := hbk.free 2
        replace hbk := hbk.set 2 (.int .u64 q2)
        replace hown := own_setC hown (Nat.lt_succ_self _) 2 (.int .u64 q2)
        replace hbw := hbw.setCell (p := ⟨w.heap.size, 2, none⟩) (Nat.le_refl _) (.int .u64 q2)
        go_wp2_with fail
        clear c2 f2
        generalize World.setCell w2 _ _ = v2 at *
        rw [rounds_succ]
        have c1 : World.cell? v2 ⟨w.heap.size, 1, none⟩ = some (.int .u64 x1) := hbk.cell (i := 1) rfl
        go_wp2_with fail
        refine (D1 _).out.mono ?_
        rintro e w1 ⟨rfl, hb⟩
        replace hbk := hbk.below hb
        replace hown := hown.below hb
        replace hbw := hbw.trans (hb.mono hbw.size)
        clear hb c1
        have c1 : World.cell? w1 ⟨w.heap.size, 1, none⟩ = some (.int .u64 x1) := hbk.cell (i := 1) rfl
        have f1 : World.frozen? w1 ⟨w.heap.size, 1, none⟩ = false := hbk.free 1
        replace hbk := hbk.set 1 (.int .u64 q1)
        replace hown := own_setC hown (Nat.lt_succ_self _) 1 (.int .u64 q1)
        replace hbw := hbw.setCell (p := ⟨w.heap.size, 1, none⟩) (Nat.le_refl _) (.int .u64 q1)
        go_wp2_with fail
        clear c1 f1
        generalize World.setCell w1 _ _ = v1 at *
        rw [rounds_succ]
        have c0 : World.cell? v1 ⟨w.heap.size, 0, none⟩ = some (.int .u64 x0) := hbk.cell (i := 0) rfl
        go_wp2_with fail
        refine (D0 _).out.mono ?_
        rintro e w0 ⟨rfl, hb⟩
        replace hbk := hbk.below hb
        replace hown := hown.below hb
        replace hbw := hbw.trans (hb.mono hbw.size)
        clear hb c0
        have c0 : World.cell? w0 ⟨w.heap.size, 0, none⟩ = some (.int .u64 x0) := hbk.cell (i := 0) rfl
        have f0 : World.frozen? w0 ⟨w.heap.size, 0, none⟩ = false := hbk.free 0
        replace hbk := hbk.set 0 (.int .u64 q0)
        replace hown := own_setC hown (Nat.lt_succ_self _) 0 (.int .u64 q0)
        replace hbw := hbw.setCell (p := ⟨w.heap.size, 0, none⟩) (Nat.le_refl _) (.int .u64 q0)
        go_wp2_with fail
        clear c0 f0
        generalize World.setCell w0 _ _ = v0 at *
        rw [rounds_succ]
        go_wp2_with (at_builtin; refine wpList_app tyeBy rfl _ _ rfl (w.heap.size + 1) _ _ [b] rfl (hown.alloc' _) ⟨_, 0, none⟩ 1 1 rfl rfl ?c1 ?c2 ?c3 ?_)
        case c1 => exact cell_row_at _ _ _ _ rfl
        case c2 => have := hlt58.out; simp; omega
        case c3 => have := hbk.lt; simp; omega
        intro v8 x8 hown8 hg8 _
        have hb8 : Below w.heap.size w x8 := (hbw.alloc hbw.size _).grown hg8 (by have := hbw.size; simp; omega) (fun k h => by have := (hown.lt k h).1; omega)
        have hbk8 : Blk x8 w.heap.size (cntC (X / 10)) 113 := by
          rw [eQ.out]
          exact (hg8.block _ (hbk.alloc _).lt (fun e => by have := (hown.lt _ e.symm).1; omega)).trans (hbk.alloc _)
        have hown9 : OwnE eBy 5 (w.heap.size + 1) x8 v8 ((ds ++ [X % 10]).map (48 + ·)) := by rw [hmap.out]; exact hown8
        obtain ⟨A8, cap8, rfl, _⟩ := hown9.sl
        have hl8 := Lib.hid (show ((ds ++ [X % 10]).map (48 + ·)).length = ds.length + 1 by simp)
        clear hown hbk hbw hown8 hg8
        go_wp2_with fail
        go_roundw
        case rel => exact ⟨X / 10, ds ++ [X % 10], Lib.hid ⟨hI2.out, hlt2.out, by rw [List.length_append]; exact hlt58.out⟩, hown9, hbk8, hb8⟩
        case measure =>
          have h1 := hn.out
          have h2 := hlt58.out
          have h3 := hl8.out
          simp only [slLen]
          omega

    · obtain ⟨hd, hX⟩ : ds ≠ [] ∧ X = 0 := by
        refine ⟨fun e => hc (.inl e), ?_⟩
        rcases Nat.eq_zero_or_pos X with e | e
        · exact e
        · exact absurd (.inr (by omega)) hc
      have hdone := Lib.hid (hI.out.1.done hc)
      subst hX
      have hq : eqC 0 0 = true := by rw [eqC_zero (by decide)]; rfl
      obtain ⟨g, cap', hv, hgB, _⟩ := hown.form (by simpa using hd)
      rw [hlen] at hv
      cases hv
      have hlt58 := Lib.hid (show ds.length ≤ 1000000 from Nat.le_trans hI.out.2.2 (by decide))
      have HR := rev_any (w.heap.size + 1) g cap (ds.map (48 + ·)) wr (by rw [hlen]; exact hown) (by simpa using hd) (by rw [hlen]; exact hlt58.out)
      rw [hlen] at HR
      have hbyte : ∀ b ∈ (ds.map (48 + ·)).reverse, b < 256 := by
        intro b hb
        rw [List.mem_reverse] at hb
        obtain ⟨d, hd, rfl⟩ := List.mem_map.1 hb
        have := decR_lt C d (by rw [hdone.out]; exact hd)
        omega
      have hfin : txt (ds.map (48 + ·)).reverse = decS C := by unfold decS; rw [hdone.out, List.map_reverse]
      have hlr : ds.length = (ds.map (48 + ·)).reverse.length := by simp
      have hn0 : ¬ (ds.length : Int) = 0 := by
        have := List.length_pos_iff.2 hd
        omega
      have hld := hbk.ld rowCnt rfl
      replace hbyte := Lib.hid hbyte
      replace hlr := Lib.hid hlr
      replace hfin := Lib.hid hfin
      replace HR := Lib.hid HR
      clear hI hS hlen hc hd
      generalize ds.length = n at *
      go_wp2_with fail
      refine HR.out.mono ?_
      rintro e w1 ⟨rfl, hown1, hg1⟩
      have cv := conv_eBy hown1 hlr.out hbyte.out
      rw [hfin.out] at cv
      have hb1 : Below w.heap.size w w1 := hbw.grown hg1 hbw.size (fun k h => by cases h; omega)
      clear hown hbk hld HR hg1 hown1
      go_wp2_with fail
      go_ret
      exact ⟨rfl, hb1⟩
end Go.Proofs.YthjhokicojgpbaaGreatDoor
namespace Go.Proofs.YthjhokicojgpbaaGreatDoor
open Go.RowKit
set_option linter.unusedVariables false
set_option linter.unusedSimpArgs false

section
variable (ρ : Operand → Value) (dst : Option Tmp) (x y : Operand) (ty : TypeId) (pos : String) (after : Array Edge) (guard : Option (Nat × Bool))
@[go_sem ↓ high] theorem execOp_stC : execOp ρ ⟨dst, .store 113 x y, ty, pos, after, guard⟩ = stT 113 (ρ x) (ρ y) := rfl
@[go_sem high] theorem execOp_stC' : execOp ρ ⟨dst, .store 113 x y, ty, pos, after, guard⟩ = stT 113 (ρ x) (ρ y) := rfl
end
theorem cntC_len (C : Nat) : (cntC C).length = 3 := rfl
theorem cntC_one (C : Nat) : ∀ v ∈ cntC C, v.oneCell' = true := by
  intro v hv
  unfold cntC at hv
  simp only [List.mem_cons, List.not_mem_nil, or_false] at hv
  rcases hv with rfl | rfl | rfl <;> rfl
/-- How many free bits a prefix has, and how many addresses the prefixes of a set. -/
def freeN (p : Pf) : Nat := (lenZ p.1.s - p.2).toNat
def sizeN (ps : List Pf) : Nat := (ps.map fun p => 2 ^ freeN p).sum
theorem freeN_le {p : Pf} (h : p.R) : freeN p ≤ 128 ∧ ((freeN p : Nat) : Int) = lenZ p.1.s - p.2 := by
  obtain ⟨_, h1, h2, _⟩ := h
  unfold freeN
  have : lenZ p.1.s ≤ 128 := by unfold lenZ; split <;> decide
  omega
theorem sizeN_le : ∀ {ps : List Pf}, (∀ p ∈ ps, p.R) → sizeN ps ≤ ps.length * 2 ^ 128
  | [], _ => Nat.le_refl _
  | p :: r, h => by
    have h1 := sizeN_le (ps := r) (fun q hq => h q (List.mem_cons_of_mem _ hq))
    have h2 : 2 ^ freeN p ≤ 2 ^ 128 := Nat.pow_le_pow_right (by decide) (freeN_le (h p List.mem_cons_self)).1
    unfold sizeN at *
    rw [List.map_cons, List.sum_cons, List.length_cons, Nat.add_mul]
    omega
theorem sizeN_step {ps : List Pf} {k : Nat} {p : Pf} (h : ps[k]? = some p) : sizeN (ps.take (k + 1)) = sizeN (ps.take k) + 2 ^ freeN p := by
  unfold sizeN
  rw [List.take_add_one, h, List.map_append, List.sum_append]
  simp
/-- What Size answers. -/
noncomputable def sizeV (ps : List Pf) : Value := if setF ps = 0 then .tuple #[.string (decS (sizeN ps)), .int .i64 0] else .tuple #[.string ByteArray.empty, .int .i64 (setF ps)]
set_option maxRecDepth 100000 in
set_option maxHeartbeats 4000000 in
theorem size_any (A : Option Addr) (n cap : Nat) (ps : List Pf) (w : World) (hS : SlE ePf w A n cap ps) (hn : n ≤ 1000) (hU : ∀ p ∈ ps, p.U) :
    Calls Tryz.prog 47 #[.slice A n cap] w (GivesV (sizeV ps) w) := by
  have HC := checkSet_any A n cap ps w hS hn hU
  have hpl := Lib.hid hS.1
  by_cases h0 : setF ps = 0
  · have hV : sizeV ps = .tuple #[.string (decS (sizeN ps)), .int .i64 0] := by unfold sizeV; rw [if_pos h0]
    rw [hV]
    rw [h0] at HC
    have hR := Lib.hid (setF_ok hU h0)
    replace hS := Lib.hid hS
    replace HC := Lib.hid HC
    clear hU h0 hV
    have z0 : cntC 0 = [.int .u64 0, .int .u64 0, .int .u64 0] := rfl
    go_enter Tryz.func47, Tryz.ntmps47
    go_wp2_with fail
    refine HC.out.mono ?_
    rintro e w1 ⟨rfl, hb1⟩
    clear HC
    obtain ⟨c, hc⟩ : ∃ c, c = w1.heap.size := ⟨_, rfl⟩
    have hcw := Lib.hid (show w.heap.size ≤ c by rw [hc]; exact hb1.size)
    have hD := Blk.new w1 (cntC 0) 113
    have hbw := hb1.alloc hb1.size (.cells (cntC 0).toArray 113)
    rw [z0] at hD hbw
    rw [← hc] at hD
    clear hb1 z0
    go_wp2_with fail
    rw [← hc]
    replace hc := Lib.hid hc
    generalize World.alloc w1 _ = W at *
    clear hc
    go_loopw [15] (fun i wr => ∃ (k X : Nat), k ≤ n ∧ i = .int .i64 k ∧ Hid (X = sizeN (ps.take k)) ∧ Blk wr c (cntC X) 113 ∧ Below w.heap.size w wr) (fun i _ => n - (intOf i).toNat)
    case atStart => exact ⟨0, 0, by omega, rfl, Lib.hid rfl, hD, hbw⟩
    case round =>
      clear hD hbw
      obtain ⟨k, X, hk, rfl, hX, hD, hbw⟩ := hrel
      by_cases hlt : k < n
      · obtain ⟨p, hp⟩ : ∃ p, ps[k]? = some p := ⟨ps[k]'(by have := hpl.out; omega), List.getElem?_eq_getElem _⟩
        obtain ⟨g0, off, rfl, hg0, hc0⟩ := hS.out.at' hlt
        have hld := SlE.ld rowPf (hS.out.below hbw) hp
        replace hld : (ldT 52 (.pointer (some ⟨g0, off + k * 4, none⟩))).run Tryz.prog wr = .ok (.value (pfA p)) wr := hld
        have hpR := hR.out p (List.mem_of_getElem? hp)
        have hlt' : (k : Int) < n := by omega
        have hsw := hbw.size
        have S1 := stT_new rowPf (te := 52) wr wr.heap.size rfl [.bool false, .int .u64 0, .int .u64 0, .int .i64 0] (pfC p) rfl rfl (pfC_one p)
        obtain ⟨f1, f2⟩ := freeN_le hpR
        have hXb : X + 2 ^ freeN p < 2 ^ 192 := by
          have h1 : sizeN (ps.take (k + 1)) = X + 2 ^ freeN p := by rw [sizeN_step hp, hX.out]
          have h2 := sizeN_le (ps := ps.take (k + 1)) (fun q hq => hR.out q (List.mem_of_mem_take hq))
          have h3 : (ps.take (k + 1)).length ≤ 1000 := by rw [List.length_take]; have := hpl.out; omega
          have h4 := Nat.mul_le_mul_right (2 ^ 128) h3
          omega
        have hX2 := Lib.hid (show X + 2 ^ freeN p = sizeN (ps.take (k + 1)) by rw [sizeN_step hp, hX.out])
        have HPL := fun w' => Lib.hid (plusC_any X (freeN p) w' f1 hXb)
        rw [f2] at HPL
        have hcD := hD.lt
        have e64 : IntKind.i64.wrap (lenZ p.1.s - p.2) = lenZ p.1.s - p.2 := IntWalk.i64_in _ (by omega)
        replace hX2 : Hid (X + 2 ^ freeN p = _) := hX2
        generalize 2 ^ freeN p = e at *
        clear hc0 hp hX hpR f1 f2 hXb
        have hC := Blk.new wr (pfC p) 52
        replace hD := hD.alloc (.cells (pfC p).toArray 52)
        replace hbw := hbw.alloc hsw (.cells (pfC p).toArray 52)
        go_wp2_with fail
        clear S1 hld
        refine wb_begin ([c, wr.heap.size]) [9] (by kernel_rfl) (fun u0 hb0' hz0' => ?_)
        replace hC := hC.below hb0'
        replace hD := hD.below hb0'
        replace hbw := hbw.trans (hb0'.mono hbw.size)
        clear hb0' hz0'
        refine wb_take (i := 0) (d := some 19) (v := ?_) (by simp only [List.getElem?_toArray, List.getElem?_cons_succ, List.getElem?_cons_zero] <;> rfl) (by rfl) (by kernel_rfl) (by kernel_rfl) (by kernel_rfl) (fun _ _ _ h => h) (by rfl) (by kernel_rfl) ?_ ?_
        rotate_left
        · ((intro u hu); have kc := hC.kb hu (by simp); have kd := hD.kb hu (by simp); have q0 := kc.cell (i := 0) (v := .bool p.1.s) rfl; have q3 := kc.cell (i := 3) (v := .int .i64 p.2) rfl; have q5 := kd.ld rowCnt rfl; clear kc kd; go_simp; try with_reducible rfl)
        try simp only [Act.put, List.setIfInBounds_toArray, List.set_cons_zero, List.set_cons_succ]
        refine wb_pure (i := 1) (d := some 20) (v := ?_) (by simp only [List.getElem?_toArray, List.getElem?_cons_succ, List.getElem?_cons_zero] <;> rfl) (by rfl) (by kernel_rfl) (by kernel_rfl) (by kernel_rfl) (fun _ _ _ h => h) (by rfl) ?_ ?_
        rotate_left
        · ((intro u); go_simp; try with_reducible rfl)
        try simp only [Act.put, List.setIfInBounds_toArray, List.set_cons_zero, List.set_cons_succ]
        refine wb_pure (i := 2) (d := some 21) (v := ?_) (by simp only [List.getElem?_toArray, List.getElem?_cons_succ, List.getElem?_cons_zero] <;> rfl) (by rfl) (by kernel_rfl) (by kernel_rfl) (by kernel_rfl) (fun _ _ _ h => h) (by rfl) ?_ ?_
        rotate_left
        · ((intro u); go_simp; try with_reducible rfl)
        try simp only [Act.put, List.setIfInBounds_toArray, List.set_cons_zero, List.set_cons_succ]
        refine wb_take (i := 3) (d := some 22) (v := ?_) (by simp only [List.getElem?_toArray, List.getElem?_cons_succ, List.getElem?_cons_zero] <;> rfl) (by rfl) (by kernel_rfl) (by kernel_rfl) (by kernel_rfl) (fun _ _ _ h => h) (by rfl) (by kernel_rfl) ?_ ?_
        rotate_left
        · ((intro u hu); have kc := hC.kb hu (by simp); have kd := hD.kb hu (by simp); have q0 := kc.cell (i := 0) (v := .bool p.1.s) rfl; have q3 := kc.cell (i := 3) (v := .int .i64 p.2) rfl; have q5 := kd.ld rowCnt rfl; clear kc kd; go_simp; try with_reducible rfl)
        try simp only [Act.put, List.setIfInBounds_toArray, List.set_cons_zero, List.set_cons_succ]
        refine wb_pure (i := 5) (d := some 24) (v := ?_) (by simp only [List.getElem?_toArray, List.getElem?_cons_succ, List.getElem?_cons_zero] <;> rfl) (by rfl) (by kernel_rfl) (by kernel_rfl) (by kernel_rfl) (fun _ _ _ h => h) (by rfl) ?_ ?_
        rotate_left
        · ((intro u); go_simp; try with_reducible rfl)
        try simp only [Act.put, List.setIfInBounds_toArray, List.set_cons_zero, List.set_cons_succ]
        refine wb_take (i := 6) (d := some 25) (v := ?_) (by simp only [List.getElem?_toArray, List.getElem?_cons_succ, List.getElem?_cons_zero] <;> rfl) (by rfl) (by kernel_rfl) (by kernel_rfl) (by kernel_rfl) (fun _ _ _ h => h) (by rfl) (by kernel_rfl) ?_ ?_
        rotate_left
        · ((intro u hu); have kc := hC.kb hu (by simp); have kd := hD.kb hu (by simp); have q0 := kc.cell (i := 0) (v := .bool p.1.s) rfl; have q3 := kc.cell (i := 3) (v := .int .i64 p.2) rfl; have q5 := kd.ld rowCnt rfl; clear kc kd; go_simp; try with_reducible rfl)
        try simp only [Act.put, List.setIfInBounds_toArray, List.set_cons_zero, List.set_cons_succ]
        refine wb_one (i := 4) (by simp only [List.getElem?_toArray, List.getElem?_cons_succ, List.getElem?_cons_zero] <;> rfl) (by kernel_rfl) (by rfl) (fun K hK => ?_)
        go_simp
        refine (spanLength_any _ _).mono ?_
        rintro e u3 ⟨rfl, rfl⟩
        refine hK _ _ (Kb.refl _ _) ?_
        clear hK K
        try simp only [Act.put, List.setIfInBounds_toArray, List.set_cons_zero, List.set_cons_succ]
        refine wb_pure (i := 7) (d := some 26) (v := ?_) (by simp only [List.getElem?_toArray, List.getElem?_cons_succ, List.getElem?_cons_zero] <;> rfl) (by rfl) (by kernel_rfl) (by kernel_rfl) (by kernel_rfl) (fun _ _ _ h => h) (by rfl) ?_ ?_
        rotate_left
        · ((intro u); go_simp; try with_reducible rfl)
        try simp only [Act.put, List.setIfInBounds_toArray, List.set_cons_zero, List.set_cons_succ]
        refine wb_one (i := 8) (by simp only [List.getElem?_toArray, List.getElem?_cons_succ, List.getElem?_cons_zero] <;> rfl) (by kernel_rfl) (by rfl) (fun K hK => ?_)
        go_simp
        refine (HPL _).out.mono ?_
        rintro e u4 ⟨rfl, hv1⟩
        refine hK _ _ (Kb.below hv1 (by intro q hq; simp only [List.mem_cons, List.not_mem_nil, or_false] at hq; rcases hq with rfl | rfl <;> first | exact hD.lt | exact hC.lt)) ?_
        replace hC := hC.below hv1
        replace hD := hD.below hv1
        replace hbw := hbw.trans (hv1.mono hbw.size)
        clear hK K hv1
        try simp only [Act.put, List.setIfInBounds_toArray, List.set_cons_zero, List.set_cons_succ]
        refine wb_store (i := 9) (by simp only [List.getElem?_toArray, List.getElem?_cons_succ, List.getElem?_cons_zero] <;> rfl) (by kernel_rfl) (by rfl) (by kernel_rfl) (fun K hK => ?_)
        go_simp
        have S9 : (stT 113 (.pointer (some ⟨c, 0, none⟩)) (cntA (X + e))).run Tryz.prog _ = _ := stT_row rowCnt hD rfl (cntC_len (X + 2 ^ e)) (cntC_one _)
        go_simp
        refine hK _ _ ?_
        replace hbw := below_row hbw hcw.out (cntC (X + e)).toArray
        replace hD := hD.row (cntC (X + e))
        clear hK K S9 hC
        try simp only [Act.put, List.setIfInBounds_toArray, List.set_cons_zero, List.set_cons_succ]
        refine wb_done (by kernel_rfl) ?_ _
        go_wp2_with fail
        go_roundw
        case rel => exact ⟨k + 1, _, by omega, by go_num, hX2, hD, hbw⟩
        case measure => simp [intOf]; omega
      · have hkn : k = n := by omega
        have hl := hD.ld rowCnt rfl
        have hXn : X = sizeN ps := by rw [hX.out, List.take_of_length_le (by have := hpl.out; omega)]
        have hXb : X < 2 ^ 192 := by
          have h2 := sizeN_le hR.out
          have h3 : ps.length ≤ 1000 := by have := hpl.out; omega
          have h4 := Nat.mul_le_mul_right (2 ^ 128) h3
          omega
        have HT := fun w' => Lib.hid (text_any X w' hXb)
        have hnk : ¬ (k : Int) < n := by omega
        rw [hXn] at HT hl
        clear hX hXb hXn hlt
        go_wp2_with fail
        refine (HT _).out.mono ?_
        rintro e w2 ⟨rfl, hb2⟩
        replace hbw := hbw.trans (hb2.mono hbw.size)
        clear hb2 hl HT hD
        go_wp2_with fail
        go_ret2
        exact ⟨rfl, hbw⟩
  · have hV : sizeV ps = .tuple #[.string ByteArray.empty, .int .i64 (setF ps)] := by unfold sizeV; rw [if_neg h0]
    rw [hV]
    replace HC := Lib.hid HC
    have hb : (setF ps == 0) = false := by simp [h0]
    generalize setF ps = z at *
    clear hV hU hS
    go_enter Tryz.func47, Tryz.ntmps47
    go_wp2_with fail
    refine HC.out.mono ?_
    rintro e w1 ⟨rfl, hb1⟩
    clear HC
    go_wp2_with fail
    go_ret2
    exact ⟨rfl, hb1⟩
end Go.Proofs.YthjhokicojgpbaaGreatDoor
