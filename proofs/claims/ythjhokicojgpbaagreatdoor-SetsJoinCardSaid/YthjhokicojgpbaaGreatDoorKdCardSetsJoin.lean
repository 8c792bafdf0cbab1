/- SetsJoin returns true for every list of numbers that comes in, and the list reads as before: no conditions but the listed variables, which the card ties to the program's text. -/
import Derived.Test.YthjhokicojgpbaaGreatDoorKdSvQ
import Derived.Test.YthjhokicojgpbaaGreatDoorKdSuE
import Derived.Test.YthjhokicojgpbaaGreatDoorKdFrameS
namespace Go.Proofs.YthjhokicojgpbaaGreatDoor
open Go.RowKit
set_option linter.unusedVariables false
set_option linter.unusedSimpArgs false

/-- What is wanted: four lists of prefixes. -/
def WantI (w0 w : World) (q : Nat) (r1 r2 r3 r4 : List Pf) : Prop := ∃ v1 v2 v3 v4, Blk w q [v1, v2, v3, v4] 44 ∧ OwnE ePf 52 w0.heap.size w v1 r1 ∧ OwnE ePf 52 w0.heap.size w v2 r2 ∧ OwnE ePf 52 w0.heap.size w v3 r3 ∧ OwnE ePf 52 w0.heap.size w v4 r4 ∧ v1.ownBlock ≠ some q ∧ v2.ownBlock ≠ some q ∧ v3.ownBlock ≠ some q
/-- What is wanted is what the reference makes. -/
def SameI (xs ys : List Pf) (EB : Int) (r1 r2 r3 : List Pf) : Prop := (EB = 0 → (∃ zs, Tells zs (fun m => InA (xs.map rgP) m ∨ InA (ys.map rgP) m) ∧ r1 = pfsOf (zs.map rowA)) ∧ (∃ zs, Tells zs (fun m => InA (xs.map rgP) m ∧ InA (ys.map rgP) m) ∧ r2 = pfsOf (zs.map rowA)) ∧ (∃ zs, Tells zs (fun m => InA (xs.map rgP) m ∧ ¬ InA (ys.map rgP) m) ∧ r3 = pfsOf (zs.map rowA))) ∧ (EB ≠ 0 → r1 = [] ∧ r2 = [] ∧ r3 = [])
def RestI (xs : List Pf) (E : Int) (r4 : List Pf) : Prop := (E = 0 → ∃ zs, Tells zs (fun m => Val m ∧ ¬ InA (xs.map rgP) m) ∧ r4 = pfsOf (zs.map rowA)) ∧ (E ≠ 0 → r4 = [])
theorem WantI.below {w0 w w' : World} {q : Nat} {r1 r2 r3 r4 : List Pf} (h : WantI w0 w q r1 r2 r3 r4) (hb : Below w.heap.size w w') : WantI w0 w' q r1 r2 r3 r4 := by
  obtain ⟨v1, v2, v3, v4, h1, h2, h3, h4, h5, h6⟩ := h
  exact ⟨v1, v2, v3, v4, Blk.below h1 hb, h2.below hb, h3.below hb, h4.below hb, h5.below hb, h6⟩
theorem own_young {α : Type} {E : Enc α} {t : TypeId} {B : Nat} {w : World} {v : Value} {xs : List α} (h : OwnE E t B w v xs) {q : Nat} (hq : q < B) : v.ownBlock ≠ some q := fun e => by have := (h.lt _ e).1; omega

set_option maxRecDepth 100000 in
set_option maxHeartbeats 8000000 in
theorem setsJoin_walk (a : Option Addr) (len cap R : Nat) (w : World) (hT : Tz w) (hs0 : Str (w.alloc (.cells #[.slice a len cap, .int .i64 0] 25)) w.heap.size (R + 42 + 42)) :
    Calls Tryz.prog 5 #[.slice a len cap] w fun e w' => e = .returned (.bool true) ∧ Below w.heap.size w w' := by
  have hT1 : Hid (∀ W, Below w.heap.size w W → Tz W) := Lib.hid fun W h => hT.below h
  clear hT
  go_enter Tryz.func5, Tryz.ntmps5
  go_wp2_with fail
  obtain ⟨w0, hw0⟩ : ∃ w0, w0 = w.alloc (.cells #[.slice a len cap, .int .i64 0] 25) := ⟨_, rfl⟩
  have hz0 : w0.heap.size = w.heap.size + 1 := by rw [hw0]; simp
  have hB0 := Lib.hid (show Below w.heap.size w w0 by rw [hw0]; exact (Below.refl _ _).alloc (Nat.le_refl _) _)
  rw [← hw0] at hs0 ⊢
  clear hw0
  obtain ⟨b, hb⟩ : ∃ b, b = w.heap.size := ⟨_, rfl⟩
  rw [← hb] at hz0 hs0 ⊢
  replace hb := Lib.hid hb
  refine (set_any w0 b (R + 42) hs0).mono ?_
  rintro e w1 ⟨xs, vx, ⟨hx1, hx2⟩, rfl, hox, hs1, hg⟩
  have hX := Lib.hid (show xs.length ≤ 6 ∧ ∀ p ∈ xs, p.U from ⟨hx1, hx2⟩)
  clear hx1 hx2 hs0
  replace hox := hox.mono (show b + 1 ≤ w0.heap.size by omega)
  have nx : vx.ownBlock ≠ some b := fun e => by have := hox.lt b e; omega
  go_wp2_with fail
  refine (set_any w1 b R hs1).mono ?_
  rintro e w2 ⟨ys, vy, ⟨hy1, hy2⟩, rfl, hoy, hs2, hg2⟩
  have hY := Lib.hid (show ys.length ≤ 6 ∧ ∀ p ∈ ys, p.U from ⟨hy1, hy2⟩)
  replace hox := hox.gb hg2 (.inr nx)
  replace hg := gb_trans hg hg2
  have hB := Lib.hid (show Below w.heap.size w w2 from hB0.out.trans (gb_toBelow hg (Nat.le_of_eq hb.out.symm) (by omega)))
  obtain ⟨Ay, cy, rfl, hSy⟩ := hoy.sl
  obtain ⟨Ax, cx, rfl, hSx⟩ := hox.sl
  clear hoy hox hg nx hg2 hs1 hs2 hy1 hy2
  obtain ⟨nx, hnx⟩ : ∃ n, n = xs.length := ⟨_, rfl⟩
  obtain ⟨ny, hny⟩ : ∃ n, n = ys.length := ⟨_, rfl⟩
  rw [← hnx] at hSx ⊢
  rw [← hny] at hSy ⊢
  have hnx6 : nx ≤ 6 := by rw [hnx]; exact hX.out.1
  have hny6 : ny ≤ 6 := by rw [hny]; exact hY.out.1
  replace hnx := Lib.hid hnx
  replace hny := Lib.hid hny
  -- what is called
  have HF1 := Lib.hid (fun W (hW : Below w2.heap.size w2 W) => setFault_any Ax nx cx xs W (hSx.below hW) (by omega) hX.out.2)
  have HF2 := Lib.hid (fun W (hW : Below w2.heap.size w2 W) => setFault_any Ay ny cy ys W (hSy.below hW) (by omega) hY.out.2)
  have HRR := Lib.hid (fun (h : setF xs = 0) => setF_ok hX.out.2 h)
  have HRR' := Lib.hid (fun (h : setF ys = 0) => setF_ok hY.out.2 h)
  have HU := Lib.hid (fun W (hW : Below w2.heap.size w2 W) hR hR' => unionOf_any 12 Ax Ay nx cx ny cy xs ys W (hSx.below hW) (hSy.below hW) (by omega) (by omega) hR hR' (fun zs hj => by have := rowsLe_len _ zs hj; rw [List.length_append] at this; have := hnx.out; have := hny.out; omega) (by omega))
  have HB := Lib.hid (fun W (hW : Below w2.heap.size w2 W) hR hR' => bothOf_any nx ny Ax Ay nx cx ny cy xs ys W (hSx.below hW) (hSy.below hW) (by omega) (by omega) hR hR' (by have := rowsLe_len xs; rwa [← hnx.out] at this) (by have := rowsLe_len ys; rwa [← hny.out] at this) (by omega) (by omega))
  have HW := Lib.hid (fun W (hW : Below w2.heap.size w2 W) hR hR' => withoutOf_any nx ny Ax Ay nx cx ny cy xs ys W (hSx.below hW) (hSy.below hW) (by omega) (by omega) hR hR' (by have := rowsLe_len xs; rwa [← hnx.out] at this) (by have := rowsLe_len ys; rwa [← hny.out] at this) (by omega) (by omega))
  have HQ := Lib.hid (fun W (hW : Below w2.heap.size w2 W) hR => restOf_any nx Ax nx cx xs W (hSx.below hW) (by omega) hR (by have := rowsLe_len xs; rwa [← hnx.out] at this) (by omega))
  have hTW := Lib.hid (fun W (hW : Below w2.heap.size w2 W) => hT1.out W (hB.out.trans (hW.mono hB.out.size)))
  have PU := Lib.hid (fun W (hW : Below w2.heap.size w2 W) => union_any Ax Ay nx cx ny cy xs ys W (hSx.below hW) (hSy.below hW) (by omega) (by omega) hX.out.2 hY.out.2 (hTW.out W hW) (bound_union hX.out.1 hY.out.1))
  have PB := Lib.hid (fun W (hW : Below w2.heap.size w2 W) => both_any Ax Ay nx cx ny cy xs ys W (hSx.below hW) (hSy.below hW) (by omega) (by omega) hX.out.2 hY.out.2 (hTW.out W hW) (bound_both hX.out.1 hY.out.1))
  have PW := Lib.hid (fun W (hW : Below w2.heap.size w2 W) => without_any Ax Ay nx cx ny cy xs ys W (hSx.below hW) (hSy.below hW) (by omega) (by omega) hX.out.2 hY.out.2 (hTW.out W hW) (bound_without hX.out.1 hY.out.1))
  have PR := Lib.hid (fun W (hW : Below w2.heap.size w2 W) => rest_any Ax nx cx xs W (hSx.below hW) (by omega) hX.out.2 (hTW.out W hW) (bound_rest hX.out.1))
  have LU := Lib.hid (fun ps (h : CmbS (fun p q => p || q) xs ys ps) => (show ps.length ≤ 1000 by obtain ⟨h1, h2, zs, hz, e⟩ := h; rw [e]; exact bound_union hX.out.1 hY.out.1 h1 h2 zs hz))
  have LB := Lib.hid (fun ps (h : CmbS (fun p q => p && q) xs ys ps) => (show ps.length ≤ 1000 by obtain ⟨h1, h2, zs, hz, e⟩ := h; rw [e]; exact bound_both hX.out.1 hY.out.1 h1 h2 zs hz))
  have LW := Lib.hid (fun ps (h : CmbS (fun p q => p && !q) xs ys ps) => (show ps.length ≤ 1000 by obtain ⟨h1, h2, zs, hz, e⟩ := h; rw [e]; exact bound_without hX.out.1 hY.out.1 h1 h2 zs hz))
  have LR := Lib.hid (fun ps (h : CmbS (fun p _ => !p) xs [] ps) => (show ps.length ≤ 1000 by obtain ⟨h1, _, zs, hz, e⟩ := h; rw [e]; exact bound_rest hX.out.1 h1 zs hz))
  rw [setF_nil] at PR
  have e10 := Lib.hid (show firstZ [setF xs, 0] = setF xs by
    rw [firstZ_cons]
    by_cases h : setF xs = 0
    · rw [if_pos h, h]; rfl
    · rw [if_neg h])
  rw [e10.out] at PR
  clear e10 hTW hT1 hSx hSy
  obtain ⟨E1, hE1⟩ : ∃ E, E = setF xs := ⟨_, rfl⟩
  obtain ⟨E2, hE2⟩ : ∃ E, E = setF ys := ⟨_, rfl⟩
  obtain ⟨EB, hEB⟩ : ∃ E, E = firstZ [E1, E2] := ⟨_, rfl⟩
  rw [← hE1] at HF1 HRR PU PB PW PR
  rw [← hE2] at HF2 HRR' PU PB PW
  rw [← hEB] at PU PB PW
  have hEB0 := Lib.hid (show EB = 0 ↔ E1 = 0 ∧ E2 = 0 by rw [hEB]; exact firstZ_both _ _)
  replace hEB := Lib.hid hEB
  clear hE1 hE2 hX hY hnx hny hnx6 hny6 hz0 hB0
  have hbw := Below.refl w2.heap.size w2
  go_wp2_with fail
  refine (HF1.out _ hbw).mono ?_
  rintro e w3 ⟨rfl, hv⟩
  replace hbw := hbw.trans (hv.mono hbw.size)
  clear hv
  go_wp2_with fail
  refine (HF1.out _ hbw).mono ?_
  rintro e w4 ⟨rfl, hv⟩
  replace hbw := hbw.trans (hv.mono hbw.size)
  clear hv
  go_wp2_with fail
  refine (HF2.out _ hbw).mono ?_
  rintro e w5 ⟨rfl, hv⟩
  replace hbw := hbw.trans (hv.mono hbw.size)
  clear hv
  have hN := Blk.new w5 ([E1, E2].map (Value.int .i64)) 30
  have hz5 := hbw.size
  have HE := Lib.hid (errs_blk [E1, E2] _ 2 _ _ hN (by simp))
  rw [← hEB.out] at HE
  replace hbw := hbw.alloc hz5 (.cells ([E1, E2].map (Value.int .i64)).toArray 30)
  clear hN HF1 HF2
  go_wp2_with fail
  refine HE.out.mono ?_
  rintro e w6 ⟨rfl, rfl⟩
  clear HE
  have hz6 := hbw.size
  generalize World.alloc w5 (.cells ([E1, E2].map (Value.int .i64)).toArray 30) = w6 at *
  have hQ0 := Blk.new w6 [.slice none 0 0, .slice none 0 0, .slice none 0 0, .slice none 0 0] 44
  have hbw7 := hbw.alloc hz6 (.cells [Value.slice none 0 0, .slice none 0 0, .slice none 0 0, .slice none 0 0].toArray 44)
  have hI0 : WantI w2 (w6.alloc (.cells [Value.slice none 0 0, .slice none 0 0, .slice none 0 0, .slice none 0 0].toArray 44)) w6.heap.size [] [] [] [] :=
    ⟨_, _, _, _, hQ0, OwnE.nil _ _, OwnE.nil _ _, OwnE.nil _ _, OwnE.nil _ _, (fun e => by cases e), (fun e => by cases e), (fun e => by cases e)⟩
  replace hI0 := Lib.hid hI0
  have hq6 := Lib.hid hz6
  clear hQ0 hbw hz5 hz6
  go_upto_if 36 with fail
  replace hbw := hbw7
  clear hbw7
  generalize World.alloc w6 _ = w7 at *
  go_cut [8] (fun v8 wx => ∃ (q : Nat) (r1 r2 r3 : List Pf), v8 = .slice (some ⟨q, 0, none⟩) 4 4 ∧ Hid (w2.heap.size ≤ q) ∧ Hid (WantI w2 wx q r1 r2 r3 []) ∧ Hid (SameI xs ys EB r1 r2 r3) ∧ Below w2.heap.size w2 wx)
  case first => as_aux_lemma =>
    by_cases hE : EB = 0
    · have b0 : (EB == 0) = true := by simp [hE]
      have hRx := Lib.hid (HRR.out (hEB0.out.1 hE).1)
      have hRy := Lib.hid (HRR'.out (hEB0.out.1 hE).2)
      have hEh := Lib.hid hE
      clear hI0 hE
      have H1 := Lib.hid (HU.out _ hbw hRx.out hRy.out)
      go_wp2_with fail
      refine H1.out.mono ?_
      rintro e u1 ⟨z1, ht1, _, ⟨v1, rfl, ho1⟩, hv⟩
      have hz1 := hbw.size
      replace ho1 := OwnE.mono ho1 hz1
      replace hbw := hbw.trans (hv.mono hz1)
      obtain ⟨B1, d1, rfl, _⟩ := ho1.sl
      generalize (pfsOf (z1.map rowA)).length = m1 at ho1 ⊢
      replace ht1 := Lib.hid ht1
      clear hv H1 hz1
      have H2 := Lib.hid (HB.out _ hbw hRx.out hRy.out)
      go_wp2_with fail
      refine H2.out.mono ?_
      rintro e u2 ⟨z2, ht2, ⟨v2, rfl, ho2⟩, hv⟩
      have hz1 := hbw.size
      replace ho1 := ho1.below hv
      replace ho2 := OwnE.mono ho2 hz1
      replace hbw := hbw.trans (hv.mono hz1)
      obtain ⟨B2, d2, rfl, _⟩ := ho2.sl
      generalize (pfsOf (z2.map rowA)).length = m2 at ho2 ⊢
      replace ht2 := Lib.hid ht2
      clear hv H2 hz1
      have H3 := Lib.hid (HW.out _ hbw hRx.out hRy.out)
      go_wp2_with fail
      refine H3.out.mono ?_
      rintro e u3 ⟨z3, ht3, ⟨v3, rfl, ho3⟩, hv⟩
      have hz1 := hbw.size
      replace ho1 := ho1.below hv
      replace ho2 := ho2.below hv
      replace ho3 := OwnE.mono ho3 hz1
      replace hbw := hbw.trans (hv.mono hz1)
      obtain ⟨B3, d3, rfl, _⟩ := ho3.sl
      generalize (pfsOf (z3.map rowA)).length = m3 at ho3 ⊢
      replace ht3 := Lib.hid ht3
      clear hv H3 hz1
      have hQ1 := Blk.new u3 [.slice B1 m1 d1, .slice B2 m2 d2, .slice B3 m3 d3, .slice none 0 0] 44
      have hz1 := hbw.size
      have hbw2 := hbw.alloc hz1 (.cells [Value.slice B1 m1 d1, .slice B2 m2 d2, .slice B3 m3 d3, .slice none 0 0].toArray 44)
      have hI1 : WantI w2 (u3.alloc (.cells [Value.slice B1 m1 d1, .slice B2 m2 d2, .slice B3 m3 d3, .slice none 0 0].toArray 44)) u3.heap.size (pfsOf (z1.map rowA)) (pfsOf (z2.map rowA)) (pfsOf (z3.map rowA)) [] :=
        ⟨_, _, _, _, hQ1, ho1.alloc' _, ho2.alloc' _, ho3.alloc' _, OwnE.nil _ _, own_new ho1, own_new ho2, own_new ho3⟩
      have hS1 : Hid (SameI xs ys EB (pfsOf (z1.map rowA)) (pfsOf (z2.map rowA)) (pfsOf (z3.map rowA))) := Lib.hid ⟨fun _ => ⟨⟨z1, ht1.out, rfl⟩, ⟨z2, ht2.out, rfl⟩, ⟨z3, ht3.out, rfl⟩⟩, fun h => absurd hEh.out h⟩
      replace hI1 := Lib.hid hI1
      clear hQ1 hbw ho1 ho2 ho3 ht1 ht2 ht3
      go_wp2_with fail
      go_meet
      exact ⟨_, _, _, _, rfl, Lib.hid hz1, hI1, hS1, hbw2⟩
    · have b0 : (EB == 0) = false := by simp [hE]
      have hS1 : Hid (SameI xs ys EB [] [] []) := Lib.hid ⟨fun h => absurd h hE, fun _ => ⟨rfl, rfl, rfl⟩⟩
      clear hE
      go_wp2_with fail
      go_meet
      exact ⟨_, _, _, _, rfl, hq6, hI0, hS1, hbw⟩
  case rest =>
  clear hI0 hbw HU HB HW
  obtain ⟨q, r1, r2, r3, rfl, hq2, hI1, hS1, hbw⟩ := hcut
  go_upto_if 48 with fail
  go_cut [8] (fun v8 wx => ∃ (r4 : List Pf), v8 = .slice (some ⟨q, 0, none⟩) 4 4 ∧ Hid (WantI w2 wx q r1 r2 r3 r4) ∧ Hid (RestI xs E1 r4) ∧ Below w2.heap.size w2 wx)
  case first => as_aux_lemma =>
    by_cases hE : E1 = 0
    · have b0 : (E1 == 0) = true := by simp [hE]
      have hRx := Lib.hid (HRR.out hE)
      have hEh := Lib.hid hE
      clear hE
      have H1 := Lib.hid (HQ.out _ hbw hRx.out)
      obtain ⟨v1, v2, v3, v4, g1, g2, g3, g4, g5, n1, n2, n3⟩ := hI1.out
      have hql := g1.lt
      clear hI1
      go_wp2_with fail
      refine H1.out.mono ?_
      rintro e u1 ⟨z1, ht1, _, ⟨v, rfl, ho⟩, hv⟩
      have hz1 := hbw.size
      have nv := own_young ho hql
      replace ho := OwnE.mono ho hz1
      replace g1 := Blk.below g1 hv
      replace g2 := g2.below hv
      replace g3 := g3.below hv
      replace g4 := g4.below hv
      replace hbw := hbw.trans (hv.mono hz1)
      have c3 := g1.cell (i := 3) rfl
      have f3 := g1.free 3
      have hz2 := hbw.size
      obtain ⟨B4, d4, rfl, _⟩ := ho.sl
      generalize (pfsOf (z1.map rowA)).length = m4 at ho nv ⊢
      have hgb := gb_cell1 u1 q 3 (.slice B4 m4 d4)
      replace g1 := g1.set 3 (.slice B4 m4 d4)
      replace g2 := g2.gb hgb (.inr n1)
      replace g3 := g3.gb hgb (.inr n2)
      replace g4 := g4.gb hgb (.inr n3)
      replace ho := ho.gb hgb (.inr nv)
      have hbw2 := hbw.setCell (p := ⟨q, 3, none⟩) hq2.out (.slice B4 m4 d4)
      have hI4 : Hid (WantI w2 (u1.setCell ⟨q, 3, none⟩ (.slice B4 m4 d4)) q r1 r2 r3 (pfsOf (z1.map rowA))) := Lib.hid ⟨_, _, _, _, g1, g2, g3, g4, ho, n1, n2, n3⟩
      have hS4 : Hid (RestI xs E1 (pfsOf (z1.map rowA))) := Lib.hid ⟨fun _ => ⟨z1, ht1, rfl⟩, fun h => absurd hEh.out h⟩
      clear hgb g1 g2 g3 g4 g5 ho ht1 hv H1
      go_wp2_with fail
      go_meet
      exact ⟨_, rfl, hI4, hS4, hbw2⟩
    · have b0 : (E1 == 0) = false := by simp [hE]
      have hS4 : Hid (RestI xs E1 []) := Lib.hid ⟨fun h => absurd h hE, fun _ => rfl⟩
      clear hE
      go_wp2_with fail
      go_meet
      exact ⟨_, rfl, hI1, hS4, hbw⟩
  case rest =>
  clear hI1 hbw HQ
  obtain ⟨r4, rfl, hI1, hS4, hbw⟩ := hcut
  replace hI1 := hI1.out
  have H1 := Lib.hid (PU.out _ hbw)
  go_wp2_with fail
  refine H1.out.mono ?_
  rintro e u1 ⟨v, p1, rfl, ho1, ha, hzz, hv⟩
  have hq1 := Lib.hid (show p1 = r1 ∧ p1.length ≤ 1000 by
    by_cases h : EB = 0
    · have hc := ha h
      exact ⟨same_pfs hc (hS1.out.1 h).1 (cmb_union hc.1 hc.2.1), LU.out _ hc⟩
    · rw [hzz h, (hS1.out.2 h).1]; exact ⟨rfl, Nat.zero_le _⟩)
  obtain ⟨B1, d1, rfl, _⟩ := ho1.sl
  generalize p1.length = m1 at ho1 ⊢
  replace hI1 := hI1.below hv
  replace hbw := hbw.trans (hv.mono hbw.size)
  clear hv ha hzz H1 PU LU
  have H2 := Lib.hid (PB.out _ hbw)
  go_wp2_with fail
  refine H2.out.mono ?_
  rintro e u2 ⟨v, p2, rfl, ho2, ha, hzz, hv⟩
  have hq2 := Lib.hid (show p2 = r2 ∧ p2.length ≤ 1000 by
    by_cases h : EB = 0
    · have hc := ha h
      exact ⟨same_pfs hc (hS1.out.1 h).2.1 (cmb_both hc.1), LB.out _ hc⟩
    · rw [hzz h, (hS1.out.2 h).2.1]; exact ⟨rfl, Nat.zero_le _⟩)
  obtain ⟨B2, d2, rfl, _⟩ := ho2.sl
  generalize p2.length = m2 at ho2 ⊢
  replace hI1 := hI1.below hv
  replace ho1 := ho1.below hv
  replace hbw := hbw.trans (hv.mono hbw.size)
  clear hv ha hzz H2 PB LB
  have H3 := Lib.hid (PW.out _ hbw)
  go_wp2_with fail
  refine H3.out.mono ?_
  rintro e u3 ⟨v, p3, rfl, ho3, ha, hzz, hv⟩
  have hq3 := Lib.hid (show p3 = r3 ∧ p3.length ≤ 1000 by
    by_cases h : EB = 0
    · have hc := ha h
      exact ⟨same_pfs hc (hS1.out.1 h).2.2 (cmb_without hc.1), LW.out _ hc⟩
    · rw [hzz h, (hS1.out.2 h).2.2]; exact ⟨rfl, Nat.zero_le _⟩)
  obtain ⟨B3, d3, rfl, _⟩ := ho3.sl
  generalize p3.length = m3 at ho3 ⊢
  replace hI1 := hI1.below hv
  replace ho1 := ho1.below hv
  replace ho2 := ho2.below hv
  replace hbw := hbw.trans (hv.mono hbw.size)
  clear hv ha hzz H3 PW LW
  have H4 := Lib.hid (PR.out _ hbw)
  go_wp2_with fail
  refine H4.out.mono ?_
  rintro e u4 ⟨v, p4, rfl, ho4, ha, hzz, hv⟩
  have hq4 := Lib.hid (show p4 = r4 ∧ p4.length ≤ 1000 by
    by_cases h : E1 = 0
    · have hc := ha h
      exact ⟨same_pfs hc (hS4.out.1 h) cmb_rest, LR.out _ hc⟩
    · rw [hzz h, (hS4.out.2 h)]; exact ⟨rfl, Nat.zero_le _⟩)
  obtain ⟨B4, d4, rfl, _⟩ := ho4.sl
  generalize p4.length = m4 at ho4 ⊢
  replace hI1 := hI1.below hv
  replace ho1 := ho1.below hv
  replace ho2 := ho2.below hv
  replace ho3 := ho3.below hv
  replace hbw := hbw.trans (hv.mono hbw.size)
  clear hv ha hzz H4 PR LR
  clear hS1 hS4
  obtain ⟨x1, x2, x3, x4, g1, g2, g3, g4, g5, _, _, _⟩ := hI1
  have hq := g1.lt
  have hQ := Blk.new u4 [.slice B1 m1 d1, .slice B2 m2 d2, .slice B3 m3 d3, .slice B4 m4 d4] 44
  have hz4 := hbw.size
  have hal : Below u4.heap.size u4 (u4.alloc (.cells [Value.slice B1 m1 d1, .slice B2 m2 d2, .slice B3 m3 d3, .slice B4 m4 d4].toArray 44)) := (Below.refl _ _).alloc (Nat.le_refl _) _
  replace hbw := hbw.trans (hal.mono hz4)
  replace g1 := Blk.below g1 hal
  replace ho1 := ho1.below hal
  replace g2 := g2.below hal
  replace ho2 := ho2.below hal
  replace g3 := g3.below hal
  replace ho3 := ho3.below hal
  replace g4 := g4.below hal
  replace ho4 := ho4.below hal
  replace g5 := g5.below hal
  clear hal hz4
  go_wp2_with fail
  have dd1 : (EB == EB) = true := beq_self_eq_true _
  have dd2 : (E1 == E1) = true := beq_self_eq_true _
  refine wp_loop_rounds 5 ?_
  rw [rounds_succ]
  have yc := hQ.cell (i := 0) rfl
  have xc := g1.cell (i := 0) rfl
  have HE := Lib.hid (equal_got ho1 g2 hq1.out.1 (by have := hq1.out.2; omega))
  go_wp2_with fail
  refine HE.out.mono ?_
  rintro e z1 ⟨rfl, hv⟩
  replace hQ := Blk.below hQ hv
  replace g1 := Blk.below g1 hv
  replace ho2 := ho2.below hv
  replace g3 := g3.below hv
  replace ho3 := ho3.below hv
  replace g4 := g4.below hv
  replace ho4 := ho4.below hv
  replace g5 := g5.below hv
  replace hbw := hbw.trans (hv.mono hbw.size)
  clear hv HE yc xc ho1 g2 hq1
  go_wp2_with fail
  rw [rounds_succ]
  have yc := hQ.cell (i := 1) rfl
  have xc := g1.cell (i := 1) rfl
  have HE := Lib.hid (equal_got ho2 g3 hq2.out.1 (by have := hq2.out.2; omega))
  go_wp2_with fail
  refine HE.out.mono ?_
  rintro e z2 ⟨rfl, hv⟩
  replace hQ := Blk.below hQ hv
  replace g1 := Blk.below g1 hv
  replace ho3 := ho3.below hv
  replace g4 := g4.below hv
  replace ho4 := ho4.below hv
  replace g5 := g5.below hv
  replace hbw := hbw.trans (hv.mono hbw.size)
  clear hv HE yc xc ho2 g3 hq2
  go_wp2_with fail
  rw [rounds_succ]
  have yc := hQ.cell (i := 2) rfl
  have xc := g1.cell (i := 2) rfl
  have HE := Lib.hid (equal_got ho3 g4 hq3.out.1 (by have := hq3.out.2; omega))
  go_wp2_with fail
  refine HE.out.mono ?_
  rintro e z3 ⟨rfl, hv⟩
  replace hQ := Blk.below hQ hv
  replace g1 := Blk.below g1 hv
  replace ho4 := ho4.below hv
  replace g5 := g5.below hv
  replace hbw := hbw.trans (hv.mono hbw.size)
  clear hv HE yc xc ho3 g4 hq3
  go_wp2_with fail
  rw [rounds_succ]
  have yc := hQ.cell (i := 3) rfl
  have xc := g1.cell (i := 3) rfl
  have HE := Lib.hid (equal_got ho4 g5 hq4.out.1 (by have := hq4.out.2; omega))
  go_wp2_with fail
  refine HE.out.mono ?_
  rintro e z4 ⟨rfl, hv⟩
  replace hQ := Blk.below hQ hv
  replace g1 := Blk.below g1 hv
  replace hbw := hbw.trans (hv.mono hbw.size)
  clear hv HE yc xc ho4 g5 hq4
  go_wp2_with fail
  rw [rounds_succ]
  go_wp2_with fail
  refine (addressed_any _).mono ?_
  rintro e w20 ⟨rfl, hb9⟩
  replace hbw := hbw.trans (hb9.mono hbw.size)
  clear hb9
  go_wp2_with fail
  go_ret
  exact ⟨rfl, hB.out.trans (hbw.mono hB.out.size)⟩
end Go.Proofs.YthjhokicojgpbaaGreatDoor
namespace Go.Proofs.YthjhokicojgpbaaGreatDoor
open Go.ChangeShapes Go.WideShapes Go.ChangeAt Go.WideElems Go.RowKit

set_option maxRecDepth 100000 in
theorem setsJoin_lifted (os : Os) (started : os.Started) (H : Type) (enc : TypeId × Value → H) :
    ReturnsInHanded {} Tryz.checked os 5 .any (fun w args => (Rows.setsJoinSpec.pre enc Tryz.prog Tryz.f5 [] false w args ∧ laidMetH Tryz.prog laidZ w) ∧ sizedMet enc Tryz.prog Tryz.f5 (OpenSpec.ofChange Rows.setsJoinSpec) false w args)
      (Rows.setsJoinSpec.post enc Tryz.prog Tryz.f5 false true false false) := by
  refine returnsInHanded_of_calls (C := Tryz.checked) own started (by kernel_rfl)
    (ChangeSpec.witness_shaped (enc := enc) (C := Tryz.checked) (os := os) (X := fun w _ => laidMetH Tryz.prog laidZ w) false (World.laidAll Tryz.prog os laidZ) #[.slice none 0 0] 8 (World.laidAll_os _ _ _) (World.shaped_of_ZipB (by kernel_rfl) (by kernel_rfl)) (by kernel_rfl) (by kernel_rfl) (by kernel_rfl) (laidZ_met os _)) ?_
  intro w tape inp _ hsh _ hok hpre _
  obtain ⟨_, _, _, fn', hfn', _, _, _, _, hval⟩ := hok
  obtain rfl : fn' = Tryz.f5 := Option.some.inj (hfn'.symm.trans Tryz.func5)
  obtain ⟨⟨⟨ds, gs, before, hw, _⟩, hL0⟩, _⟩ := hpre
  have hW := DataW.Whole.of_heap (w' := w.forCall tape inp) (by rfl) hw
  have hL : laidMetH Tryz.prog laidZ (w.forCall tape inp) := hL0.of_heap (by rfl)
  have hcons := tz_of_laid hL
  clear hw hL0 hL hsh
  generalize w.forCall tape inp = W at *
  generalize inp.args = args at *
  suffices hmain : Calls Tryz.prog 5 args W fun e W' => ∃ v, e = .returned v ∧ Rows.setsJoinSpec.post enc Tryz.prog Tryz.f5 false true false false W args v W' by
    refine hmain.mono fun e W' ⟨v, he, hp⟩ => ?_
    subst he
    exact ChangeSpec.post_blind hp
  have hW' := hW
  obtain ⟨p, q, hA0, hV, rfl, hfz, hnd⟩ := hW
  have hA : DataW.TrodAll enc Tryz.prog W 0 (fun _ => true) true Tryz.f5.params.toList args.toList ds p := hA0
  rw [Tryz.params5] at hA hval
  obtain ⟨v0, vs0, d0, ds0, p0, q0, hargs, rfl, rfl, h0, r0⟩ := trodAll_cons hA
  obtain ⟨rfl, rfl, rfl⟩ := trodAll_nil r0
  obtain rfl : args = #[v0] := by cases args; simp_all
  obtain ⟨rfl, rfl⟩ := trodVars_none hV
  obtain ⟨a0, len0, cap0, rfl⟩ := okWide_slice Tryz.underlying22 (hval 0 22 v0 rfl rfl)
  have k0 := h0
  have lt0 : ∀ x ∈ p0, x.block < W.heap.size := by obtain ⟨m, hm⟩ := k0; exact DataW.trod_lt m _ _ _ hm
  obtain ⟨z0, w0⟩ : ∃ zs, IsRow .i64 W a0 len0 cap0 zs := by
    obtain ⟨fuel, hf⟩ := h0
    rcases open_ints Tryz.underlying22 Tryz.underlying3 (by kernel_rfl) hf with ⟨hcs, _⟩ | ⟨x, l, c, zs, hcs, _, hl, hm, hz, _, hcell, hwz⟩
    · simp [Value.cells] at hcs
      obtain ⟨rfl, rfl, rfl⟩ := hcs
      exact ⟨[], .inl ⟨rfl, rfl, rfl, rfl⟩⟩
    · simp [Value.cells] at hcs
      obtain ⟨rfl, rfl, rfl⟩ := hcs
      exact ⟨zs, .inr ⟨_, rfl, hl, hm, by simpa using hz, hcell, hwz⟩⟩
  clear hA0
  refine (setsJoin_walk a0 len0 cap0 1000 W hcons (str_of_row w0 (1000 + 42 + 42) (by decide))).mono fun e W' ⟨he, bel⟩ => ?_
  subst he
  exact ⟨_, rfl, _, _, _, [], _, [], hW', trodAll_mk1 (shut_bool Tryz.underlying4 _), (trodAll_cons_mk (Below.trod laidOut (by kernel_rfl) (of_decide_eq_true (by kernel_rfl)) k0 bel lt0) trodAll_mk0), rfl, bel.frame _, fun h => by cases h⟩

theorem setsJoin_said : Rows.SetsJoinSaid :=
  OpenClaim.holds_of_wide 5 Tryz.f5 rfl rfl rfl rfl rfl rfl rfl ⟨rfl, rfl, rfl, rfl, rfl⟩ rfl rfl rfl rfl rfl (by kernel_rfl) Tryz.func5 (by kernel_rfl)
    (of_decide_eq_true (by kernel_rfl)) (by unfold Func.isWrapper; first | (rw [if_pos (by decide +kernel)]; kernel_rfl) | (rw [if_neg (by decide +kernel)]; exact ⟨rfl, rfl⟩))
    (fun os started H enc _ => setsJoin_lifted os started H enc)

/-- The statement. -/
theorem setsJoin_holds : Rows.SetsJoinCardSaid :=
  Claim7.holds_tied_plain_at .later [] [.data, .data, .data] true _ true
    setsJoin_said (fun _ h => by cases h) (by kernel_rfl) (fun _ h => by cases h) setsJoin_row_tie rfl ⟨rfl, rfl⟩ (by kernel_rfl) rfl
    (fun f fn hf hfn => by
      obtain rfl : f = 5 := Option.some.inj ((show Tryz.prog.funcNamed Tryz.f5.name = some 5 by kernel_rfl).symm.trans hf) |>.symm
      obtain rfl : fn = Tryz.f5 := (Option.some.inj (Tryz.func5.symm.trans hfn)).symm
      exact ⟨by kernel_rfl, fun j t ht => by
        rw [Tryz.params5] at ht
        have hm : t ∈ [22] := by simpa using Array.mem_of_getElem? ht
        have hall : ([22].all fun u => !Tryz.prog.wantsStandIn u) = true := by kernel_rfl
        exact (show Tryz.prog.wantsStandIn t = false by simpa using List.all_eq_true.1 hall t hm)⟩)
    (by kernel_rfl)
#print axioms setsJoin_holds
end Go.Proofs.YthjhokicojgpbaaGreatDoor
