/- slices.Grow of nothing; slices.Concat of three slices. -/
import Derived.Test.YtokeeimppbiokaaGreatDoorPsI
import Derived.Lib.AppendZerosOnto
import Derived.Lib.SliceRun
import Derived.Laws.AppendOwnNone
namespace Go.Proofs.YtokeeimppbiokaaGreatDoor
open Go.RowKit

set_option maxHeartbeats 2000000 in
set_option maxRecDepth 100000 in
theorem grow_eight (w : World) :
    Calls Tryz.prog 79 #[.slice none 0 0, .int .i64 8] w fun e w' => ∃ v, e = .returned v ∧ w'.ownsRow w.heap.size 27 1 v 0 [] ∧ Below w.heap.size w w' := by
  obtain ⟨i0, hi0, hz0, hz1, hz2⟩ := info_parts info_u64
  have hrz : ∀ ty, (Builtin.append_ #[54, 3] ty #[.slice none 0 0, .int .i64 8]).run Tryz.prog w =
      .ok (.slice (some ⟨w.heap.size, 0, none⟩) (0 + 8) (grownCap w (0 + 8) 0 27)) (w.drew.alloc (.cells (#[] ++ Builtin.zeroCells (Value.int .u64 0).cells 8 ++ Builtin.zeroCells (Value.int .u64 0).cells (grownCap w (0 + 8) 0 27 - (0 + 8))) 27)) := fun ty => by
    have h := Lib.run_append_grow_zeros w 54 3 ty 27 i0 (.int .u64 0) .i64 .i64 Tryz.underlying54 Tryz.underlying3 hi0 hz0 none 0 0 [] (run_firstCells_none w.drew i0.size 0 0 0) 8 (by omega) (by omega) (by omega) (by omega) (by omega) (growslice_fits (by omega) (by omega))
    exact h
  obtain ⟨G, hG⟩ : ∃ G, G = grownCap w (0 + 8) 0 27 := ⟨_, rfl⟩
  have hG8 : 8 ≤ G := by rw [hG]; exact grownCap_ge w _ _ _
  have hG63 : G ≤ maxLen := by rw [hG]; exact grownCap_le_maxLen w (0 + 8) 0 27 (by unfold maxLen; omega)
  rw [← hG] at hrz
  have hZ : (#[] ++ Builtin.zeroCells (Value.int .u64 0).cells 8 ++ Builtin.zeroCells (Value.int .u64 0).cells (G - (0 + 8))).size = G := by
    simp [Builtin.zeroCells, Value.cells]; omega
  obtain ⟨Z, hZ0⟩ : ∃ Z, Z = (#[] ++ Builtin.zeroCells (Value.int .u64 0).cells 8 ++ Builtin.zeroCells (Value.int .u64 0).cells (G - (0 + 8))) := ⟨_, rfl⟩
  rw [← hZ0] at hrz hZ
  have hW : (w.drew.alloc (.cells Z 27)).ownsRow w.heap.size 27 1 (.slice (some ⟨w.heap.size, 0, none⟩) 0 G) 0 [] := by
    refine ⟨rfl, .inr ⟨w.heap.size, G, Z, rfl, Nat.le_refl _, ?_, Nat.zero_le _, hG63, by omega, by simp⟩⟩
    simp [World.alloc, World.drew, -World.alloc_eq, -World.drew_eq]
  have hb : Below w.heap.size w (w.drew.alloc (.cells Z 27)) := (Below.drew (Below.refl _ w)).alloc (Nat.le_refl _) _
  have hG63' : G ≤ 9223372036854775807 := by unfold maxLen at hG63; omega
  clear hZ0 hZ hG hG63
  replace hW := Lib.hid hW
  replace hb := Lib.hid hb
  go_enter Tryz.func79, Tryz.ntmps79
  go_wp2_with (at_builtin; refine Lib.wpList_append_run _ rfl _ _ _ _ rfl _ _ rfl rfl _ _ (hrz _) ?_)
  go_ret
  exact ⟨_, rfl, hW.out, hb.out⟩

/-- append of a slice that reads as a list, to one's own row. -/
theorem append_sl {w : World} {ops : Array Oper} {rest : List Oper} {o : Oper} {a : Act} {Q : Exit → Act → World → Prop} (hgd : o.guard = none) (s x : Operand)
    (ho : o.op = .call { callee := .builtin .append, args := #[s, x], argTypes := #[54, 54] })
    (base : Nat) (v : Value) (n : Nat) (xs : List Value) (hs : a.eval s = v) (hown : w.ownsRow base 27 1 v n xs)
    (A : Option Addr) (m c : Nat) (gs : List Nat) (hx : a.eval x = .slice A m c) (hS : SlN .u64 w A m c gs) (hA : A = none → c = 0) (hb : n + m ≤ 1000000) (hbase : base ≤ w.heap.size)
    (h : ∀ v' w', w'.ownsRow base 27 1 v' (n + m) (xs ++ gs.map fun (g : Nat) => Value.int .u64 (g : Int)) → w.grownBy w' v.ownBlock → wpList Tryz.prog ops Q rest (a.put o.dst v') w') : wpList Tryz.prog ops Q (o :: rest) a w := by
  obtain ⟨i0, hi0, hz0, hz1, hz2⟩ := info_parts info_u64
  cases A with
  | none =>
    obtain rfl := hA rfl
    have hm : m = 0 := by
      rcases hS.2.2 with h0 | ⟨_, _, h0, _⟩
      · exact h0
      · cases h0
    subst hm
    have hg : gs = [] := by
      have := hS.1
      rw [List.length_map] at this
      exact List.eq_nil_of_length_eq_zero this.symm
    subst hg
    refine wpList_append_own_none hgd s x 54 ho base 27 i0 1 Tryz.underlying54 hi0 v n xs hs hown hx ?_
    refine h v w (by simpa using hown) ?_
    exact World.grownBy.refl _ _
  | some ad =>
    refine wpList_append_own w hgd s x 54 ho base 27 i0 (.int .u64 0) 1 8 Tryz.underlying54 hi0 hz0 hz1 hz2 rfl (by decide) v n xs hs hown ad m c (gs.map fun (g : Nat) => Value.int .u64 (g : Int)) hx (by rw [Nat.mul_one]; exact hS.1.symm) (fun j u hj => ?_) (fun u hu => ?_) (by unfold maxLen; omega) (by omega) hbase (fun v' w' h1 h2 _ => h v' w' h1 h2)
    · rcases hS.2.2 with h0 | ⟨g, off, h0, _, h2⟩
      · have h1 : (gs.map fun (g : Nat) => Value.int .u64 (g : Int)).length = 0 := by rw [← hS.1]; exact h0
        rw [List.eq_nil_of_length_eq_zero h1] at hj
        cases hj
      · cases h0
        have e : Addr.add ⟨g, off, none⟩ j = ⟨g, off + j, none⟩ := by
          unfold Addr.add
          split
          · rename_i h; subst h; rfl
          · rfl
        rw [e]
        exact h2 j u hj
    · obtain ⟨g, _, rfl⟩ := List.mem_map.1 hu
      rfl

/-- Three slices, one behind the other, of eight numbers. -/
theorem concat_any (B n1 c1 n2 c2 n3 c3 : Nat) (A1 A2 A3 : Option Addr) (g1 g2 g3 : List Nat) (w : World)
    (h1 : w.cell? ⟨B, 0, none⟩ = some (.slice A1 n1 c1)) (h2 : w.cell? ⟨B, 1, none⟩ = some (.slice A2 n2 c2)) (h3 : w.cell? ⟨B, 2, none⟩ = some (.slice A3 n3 c3))
    (s1 : SlN .u64 w A1 n1 c1 g1) (s2 : SlN .u64 w A2 n2 c2 g2) (s3 : SlN .u64 w A3 n3 c3 g3) (z1 : A1 = none → c1 = 0) (z2 : A2 = none → c2 = 0) (z3 : A3 = none → c3 = 0) (hn : n1 + n2 + n3 = 8) :
    Calls Tryz.prog 57 #[.slice (some ⟨B, 0, none⟩) 3 3] w fun e w' => ∃ A cap, e = .returned (.slice A 8 cap) ∧ SlN .u64 w' A 8 cap (g1 ++ g2 ++ g3) ∧ Below w.heap.size w w' := by
  have HG := Lib.hid (grow_eight w)
  have hn' : (n1 : Int) + (n2 : Int) + (n3 : Int) = 8 := by omega
  have m1 : (n1 : Int) ≤ 8 := by omega
  have m2 : (n1 : Int) + (n2 : Int) ≤ 8 := by omega
  have hBw : B < w.heap.size := by have := World.block_lt_of_cell? w _ h1; exact this
  go_enter Tryz.func57, Tryz.ntmps57
  go_wp2_with fail
  refine wp_loop_rounds 4 ?_
  rw [rounds_succ]
  go_wp2_with fail
  rw [rounds_succ]
  go_wp2_with fail
  rw [rounds_succ]
  go_wp2_with fail
  rw [rounds_succ]
  go_wp2_with fail
  refine HG.out.mono ?_
  rintro e w1 ⟨v0, rfl, hown0, hb0⟩
  have hs0 := hb0.size
  have k0 : w1.cell? ⟨B, 0, none⟩ = some (.slice A1 n1 c1) := (hb0.cell (p := ⟨B, 0, none⟩) hBw).trans h1
  replace hown0 := Lib.hid hown0
  replace s1 := Lib.hid s1
  replace s2 := Lib.hid s2
  replace s3 := Lib.hid s3
  replace h2 := Lib.hid h2
  replace h3 := Lib.hid h3
  clear HG h1 hn' m1 m2
  go_wp2_with fail
  refine wp_loop_rounds 4 ?_
  rw [rounds_succ]
  go_wp2_with (at_builtin; refine append_sl rfl _ _ rfl w.heap.size _ _ _ rfl hown0.out A1 n1 c1 g1 rfl (s1.out.keep hs0 fun j hj => hb0.block j hj) z1 (by omega) hs0 ?_)
  intro v1 x1 hown1 hg1
  have hb1 : Below w.heap.size w x1 := hb0.grown hg1 hs0 (fun k h => (hown0.out.lt k h).1)
  have hs1 := hb1.size
  replace hown1 := Lib.hid hown1
  clear hg1
  have k1 : x1.cell? ⟨B, 1, none⟩ = some (.slice A2 n2 c2) := (hb1.cell (p := ⟨B, 1, none⟩) hBw).trans h2.out
  clear k0
  go_wp2_with fail
  rw [rounds_succ]
  go_wp2_with (at_builtin; refine append_sl rfl _ _ rfl w.heap.size _ _ _ rfl hown1.out A2 n2 c2 g2 rfl (s2.out.keep hs1 fun j hj => hb1.block j hj) z2 (by omega) hs1 ?_)
  intro v2 x2 hown2 hg2
  have hb2 : Below w.heap.size w x2 := hb1.grown hg2 hs1 (fun k h => (hown1.out.lt k h).1)
  have hs2 := hb2.size
  replace hown2 := Lib.hid hown2
  clear hg2
  have k2 : x2.cell? ⟨B, 2, none⟩ = some (.slice A3 n3 c3) := (hb2.cell (p := ⟨B, 2, none⟩) hBw).trans h3.out
  clear k1
  go_wp2_with fail
  rw [rounds_succ]
  go_wp2_with (at_builtin; refine append_sl rfl _ _ rfl w.heap.size _ _ _ rfl hown2.out A3 n3 c3 g3 rfl (s3.out.keep hs2 fun j hj => hb2.block j hj) z3 (by omega) hs2 ?_)
  intro v3 x3 hown3 hg3
  have hb3 : Below w.heap.size w x3 := hb2.grown hg3 hs2 (fun k h => (hown2.out.lt k h).1)
  have hs3 := hb3.size
  replace hown3 := Lib.hid hown3
  clear hg3
  go_wp2_with fail
  rw [rounds_succ]
  go_wp2_with fail
  obtain ⟨A, cap, rfl, hS⟩ := Sl.of_own hown3.out
  go_ret
  refine ⟨A, cap, rfl, ?_, hb3⟩
  unfold SlN
  rw [List.map_append, List.map_append, List.append_assoc]
  exact hS
end Go.Proofs.YtokeeimppbiokaaGreatDoor
