/- A row of one key that is checked. -/
import Derived.Test.YtfiocnjogbpgoaaGreatDoorKjRvC
import Derived.Test.YtfiocnjogbpgoaaGreatDoorKjSqA
namespace Go.Proofs.YtfiocnjogbpgoaaGreatDoor
open Go.RowKit
set_option linter.unusedVariables false
set_option linter.unusedSimpArgs false

attribute [local go_sem] Oper.semAt_some

theorem pieces_none : pieces [] 46 = [[]] := by decide
/-- What Suffix' loop says of its own state, with nothing yielded yet; when it is left. -/
structure SfJ (c l D : Nat) (rc : Loop) (w : World) (pre : List (List UInt8)) (W : World) : Prop where
  no : pre = []
  rs : Boxed W c 33 (.int .i64 0)
  lp : W.heap[l]? = some (.loop rc)
  df : W.heap[D]? = some (.deferred (some []))
  bel : Below c w W
structure SfX (c l D : Nat) (rc : Loop) (w : World) (W : World) : Prop where
  rs : Boxed W c 33 (.int .i64 3)
  lp : W.heap[l]? = some (.loop rc)
  df : W.heap[D]? = some (.deferred (some []))
  bel : Below c w W

set_option maxRecDepth 100000 in
set_option maxHeartbeats 4000000 in
theorem suffixEmpty_any (w : World) : Calls Tryz.prog 145 #[.string ⟨#[]⟩] w (GivesV (.int .i64 3) w) := by
  refine (callsIn_wide (n := 5)).1 ?_
  refine callsIn_of_wp_marks Tryz.func145 rfl trivial ?_ rfl
  simp only [Tryz.ntmps145, List.size_toArray, List.length_cons, List.length_nil, Nat.reduceAdd, Nat.reduceSub, Array.replicate_succ, Array.replicate_zero, List.push_toArray, List.append_toArray, List.nil_append, List.cons_append]
  gi_wp2
  refine ⟨trivial, ?_⟩
  refine (callsIn_wide.2 (splitSeqFG_any 46 [] _)).mono ?_
  rintro e w1 ⟨rfl, rfl⟩
  obtain ⟨c, hc⟩ : ∃ c, c = w.heap.size := ⟨_, rfl⟩
  have bR := Boxed.new w 33 (.int .i64 0)
  obtain ⟨W0, hW0⟩ : ∃ W, W = w.alloc (.cells #[.int .i64 0] 33) := ⟨_, rfl⟩
  have hz0 : W0.heap.size = c + 1 := by rw [hW0, hc]; simp
  have hb0 : Below c w W0 := by rw [hW0, hc]; exact (Below.refl _ _).alloc (Nat.le_refl _) _
  rw [← hW0] at bR ⊢
  rw [hz0]
  have bS := Boxed.new W0 9 (.string ⟨([] : List UInt8).toArray⟩)
  have bP := Boxed.new (W0.alloc (.cells #[.string ⟨([] : List UInt8).toArray⟩] 9)) 9 (.string ⟨#[46]⟩)
  have bV := Boxed.new ((W0.alloc (.cells #[.string ⟨([] : List UInt8).toArray⟩] 9)).alloc (.cells #[.string ⟨#[46]⟩] 9)) 3 (.int .i64 0)
  rw [World.size_alloc, World.size_alloc, hz0] at bV
  rw [World.size_alloc, hz0] at bP
  rw [hz0] at bS
  rw [← hc] at bR
  obtain ⟨W1, hW1⟩ : ∃ W, W = ((W0.alloc (.cells #[.string ⟨([] : List UInt8).toArray⟩] 9)).alloc (.cells #[.string ⟨#[46]⟩] 9)).alloc (.cells #[.int .i64 0] 3) := ⟨_, rfl⟩
  have hz1 : W1.heap.size = c + 1 + 1 + 1 + 1 := by rw [hW1]; simp [hz0]
  have hB1 : Below c w W1 := by
    rw [hW1]
    exact ((hb0.alloc (by omega) _).alloc (by simp; omega) _).alloc (by simp; omega) _
  have cR : Boxed W1 c 33 (.int .i64 0) := by rw [hW1]; exact ((bR.alloc _).alloc _).alloc _
  have cS : Boxed W1 (c + 1) 9 (.string ⟨([] : List UInt8).toArray⟩) := by rw [hW1]; exact (bS.alloc _).alloc _
  have cP : Boxed W1 (c + 1 + 1) 9 (.string ⟨#[46]⟩) := by rw [hW1]; exact bP.alloc _
  have cV : Boxed W1 (c + 1 + 1 + 1) 3 (.int .i64 0) := by rw [hW1]; exact bV
  replace hz1 := Lib.hid hz1
  replace hc := Lib.hid hc
  clear bR bS bP bV hb0 hz0
  try rw [← hc.out]
  rw [← hW1]
  clear hW1 hW0
  gi_wp2
  refine range_enterI (by decide) (gf := 341) (lb := #[.pointer (some ⟨c + 1 + 1, 0, none⟩), .pointer (some ⟨c + 1, 0, none⟩), .pointer (some ⟨c + 1 + 1 + 1, 0, none⟩)]) (by simp [Act.eval]) (enters_of Tryz.func341 (by kernel_rfl) rfl) ?_
  intro fn rc hrc
  obtain ⟨D, hD⟩ : ∃ D, D = W1.heap.size := ⟨_, rfl⟩
  have hDc : D = c + 1 + 1 + 1 + 1 := by rw [hD]; exact hz1.out
  have hBe : Below c W1 ((W1.alloc (.deferred (some []))).alloc (.loop (rc .ready none))) := ((Below.refl _ W1).alloc (by omega) _).alloc (by simp; omega) _
  have hJ0 : SfJ c (D + 1) D (rc .ready none) w [] ((W1.alloc (.deferred (some []))).alloc (.loop (rc .ready none))) := by
    refine ⟨rfl, (cR.alloc _).alloc _, ?_, ?_, hB1.trans hBe⟩
    · have := World.alloc_heap_new (W1.alloc (.deferred (some []))) (.loop (rc .ready none))
      rw [World.size_alloc, ← hD] at this
      exact this
    · rw [hD]; exact (Below.heap_alloc _ _ _ (by simp)).trans (World.alloc_heap_new W1 _)
  have eS := (cS.alloc (.deferred (some []))).alloc (.loop (rc .ready none))
  have eP := (cP.alloc (.deferred (some []))).alloc (.loop (rc .ready none))
  have eV := (cV.alloc (.deferred (some []))).alloc (.loop (rc .ready none))
  rw [← hD]
  obtain ⟨We, hWe⟩ : ∃ W, W = (W1.alloc (.deferred (some []))).alloc (.loop (rc .ready none)) := ⟨_, rfl⟩
  rw [← hWe] at hBe hJ0 eS eP eV ⊢
  have hB2 := hB1.trans hBe
  replace hDc := Lib.hid hDc
  clear hWe hBe hB1 cR cS cP cV hD
  refine (splitSeqG_in 46 4 (by decide) c (D + 1) (c + 1 + 1) (c + 1) (c + 1 + 1 + 1) (by omega) (by omega) [] (by decide) w (SfJ c (D + 1) D (rc .ready none) w) (fun _ => SfX c (D + 1) D (rc .done (some .ret)) w) (fun pre W v h => ?hH) ?hY We hB2 eP eS eV hJ0).mono ?_
  case hH =>
    have hcl := hDc.out
    exact ⟨h.no, h.rs.other (by omega) v, (Below.heap_setCell _ _ _ _ (by show D + 1 ≠ c + 1; omega)).trans h.lp, (Below.heap_setCell _ _ _ _ (by show D ≠ c + 1; omega)).trans h.df, h.bel.setCell (p := ⟨c + 1, 0, none⟩) (by show c ≤ c + 1; omega) v⟩
  case hY =>
    rintro pre p W ⟨rfl, hv, hl, hD, hB⟩ hpre hp
    have hp0 : p = [] := by
      rw [pieces_none] at hpre
      have := hpre.subset (show p ∈ [] ++ [p] by simp)
      exact List.mem_singleton.1 this
    subst hp0
    have hy := run_yield (P := Tryz.prog) (args := #[.string ⟨([] : List UInt8).toArray⟩]) hl (by rw [hrc]; rfl)
    rw [hrc] at hy
    refine ⟨_, _, _, _, hy, roundIn_of_wpIn trivial ?_⟩
    clear hy hp hpre
    replace hrc := Lib.hid hrc
    simp only [List.zip, Array.zip, List.foldl]
    gi_wp2
    refine ⟨_, run_beginRound hl (by rw [hrc.out]), ?_⟩
    obtain ⟨busy, hbusy⟩ : ∃ o : Loop, o = { rc .ready none with state := .busy } := ⟨_, rfl⟩
    rw [← hbusy]
    obtain ⟨Wb, hWb⟩ : ∃ X, X = W.putObj (D + 1) (.loop busy) := ⟨_, rfl⟩
    rw [← hWb]
    have hlt1 := (Array.getElem?_eq_some_iff.1 hl).1
    have hcl := hDc.out
    have hg2 : W.grownBy Wb (some (D + 1)) := by rw [hWb]; exact grownBy_putObj' _ _ _
    have hvb : Boxed Wb c 33 (.int .i64 0) := hv.kept hg2 (by intro e; have := Option.some.inj e; omega)
    have hlb : Wb.heap[D + 1]? = some (.loop busy) := by rw [hWb]; exact World.putObj_heap_same hlt1
    have hDb : Wb.heap[D]? = some (.deferred (some [])) := by rw [hWb]; exact (World.putObj_heap_other (by omega)).trans hD
    have hszb : Wb.heap.size = W.heap.size := by rw [hWb]; simp
    have hBW : Below c W Wb := (Below.refl c W).grown hg2 (by omega) (fun k e => by have := Option.some.inj e; omega)
    have HL := Lib.hid (isKeyEmptyU_any Wb)
    clear hWb hg2 hv
    gi_wp2
    refine ⟨trivial, ?_⟩
    refine (CallsIn.inRound _ (callsIn_wide.2 HL.out)).mono ?_
    rintro e w3 ⟨rfl, rfl⟩
    have hvS := hvb.set (.int .i64 3)
    have f3 := hvb.frozen
    have c3 := hvb.cell
    gi_wp2
    have hlS := (Below.heap_setCell w3 ⟨c, 0, none⟩ (.int .i64 3) (D + 1) (by show D + 1 ≠ c; omega)).trans hlb
    have hDS := (Below.heap_setCell w3 ⟨c, 0, none⟩ (.int .i64 3) D (by show D ≠ c; omega)).trans hDb
    have hBS := (hB.trans hBW).setCell (p := ⟨c, 0, none⟩) (Nat.le_refl _) (.int .i64 3)
    have hBWS := hBW.setCell (p := ⟨c, 0, none⟩) (Nat.le_refl _) (.int .i64 3)
    have hltS := (Array.getElem?_eq_some_iff.1 hlS).1
    refine ⟨_, _, run_endRound (some .ret) hlS, .inr ⟨rfl, ⟨?_, ?_, ?_, ?_⟩, ?_⟩⟩
    · exact hvS.kept (grownBy_putObj' _ _ _) (by intro e; have := Option.some.inj e; omega)
    · rw [hbusy, hrc.out]; exact World.putObj_heap_same hltS
    · exact (World.putObj_heap_other (by omega)).trans hDS
    · exact hBS.grown (grownBy_putObj' _ _ _) (by have := hBS.size; have := hvb.lt; omega) (fun k e => by have := Option.some.inj e; omega)
    · exact hBWS.grown (grownBy_putObj' _ _ _) (by have := hvb.lt; have := hBWS.size; omega) (fun k e => by have := Option.some.inj e; omega)
  · rintro e W2 ⟨⟨v0, rfl⟩, hor, hBel⟩
    have hcl := hDc.out
    rcases hor with hJ | ⟨pre, hpre, hv, hl, hD, hB⟩
    · have := hJ.no
      rw [pieces_none] at this
      cases this
    · have hel := run_endLoop (P := Tryz.prog) hl (by rw [hrc]; simp)
      obtain ⟨W3, hW3⟩ : ∃ X, X = W2.putObj (D + 1) (.loop { rc .done (some .ret) with state := .exhausted }) := ⟨_, rfl⟩
      rw [← hW3] at hel
      refine ⟨some .ret, W3, by rw [hel, hrc], ?_⟩
      have hg := grownBy_putObj' W2 (D + 1) (.loop { rc .done (some .ret) with state := .exhausted })
      rw [← hW3] at hg
      have hv3 := hv.kept hg (by intro e; have := Option.some.inj e; omega)
      have hD3 : W3.heap[D]? = some (.deferred (some [])) := by rw [hW3]; exact (World.putObj_heap_other (by omega)).trans hD
      have hB3 : Below c w W3 := hB.grown hg (by have := hv.lt; omega) (fun k e => by have := Option.some.inj e; omega)
      clear hv hl hD hg hW3 hel hBel hB
      show Code.wpIn _ _ _ _ _ _ _
      gi_wp2
      have g2 := (Boxed.kept (hv3) (grownBy_putObj' _ (c + 1 + 1 + 1 + 1) (.deferred none)) (by intro e; have := Option.some.inj e; omega)).cell
      rw [hDc.out] at hD3
      have hBf := hB3.grown (grownBy_putObj' _ (c + 1 + 1 + 1 + 1) (.deferred none)) (by have := (hv3).lt; omega) (fun k e => by have := Option.some.inj e; omega)
      refine ⟨by simp, .inl ⟨_, _, rfl, run_takeDeferred hD3, ?_⟩⟩
      refine ⟨.int .i64 3, ?_, rfl, by rw [← hc.out]; exact hBf⟩
      simp [results, Tryz.results145, go_sem, g2]
end Go.Proofs.YtfiocnjogbpgoaaGreatDoor
namespace Go.Proofs.YtfiocnjogbpgoaaGreatDoor
open Go.RowKit
set_option linter.unusedVariables false
set_option linter.unusedSimpArgs false

set_option maxHeartbeats 1000000 in
set_option maxRecDepth 100000 in
theorem risingA_any (g : Nat) (w : World) (hL : Blk w g [.string ⟨#[97]⟩] 9) : Calls Tryz.prog 138 #[.slice (some ⟨g, 0, none⟩) 1 1, .int .i64 499, .func (.func 105) #[] #[], .func (.func 101) #[] #[], .slice none 0 0] w (fun e w' => e = .returned (.int .i64 0) ∧ w = w') := by
  have x0 := hL.cell (i := 0) rfl
  go_enter Tryz.func138, Tryz.ntmps138
  go_wp2_with fail
  refine wp_loop_rounds 3 ?_
  rw [rounds_succ]
  go_wp2_with fail
  refine (keyA_any _).mono ?_
  rintro e w2 ⟨rfl, rfl⟩
  go_wp2_with fail
  refine wp_loop_rounds 2 ?_
  rw [rounds_succ]
  go_wp2_with fail
  rw [rounds_succ]
  go_wp2_with fail
  go_ret
  exact ⟨rfl, rfl⟩
end Go.Proofs.YtfiocnjogbpgoaaGreatDoor
