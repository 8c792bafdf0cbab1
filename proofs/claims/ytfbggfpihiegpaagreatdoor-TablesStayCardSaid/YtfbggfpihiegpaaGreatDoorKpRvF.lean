/- A patch that says that one is gone. -/
import Derived.Test.YtfbggfpihiegpaaGreatDoorKpGzA
import Derived.Test.YtfbggfpihiegpaaGreatDoorKpRvC
import Derived.Test.YtfbggfpihiegpaaGreatDoorKpSqA
set_option linter.unusedVariables false
set_option linter.unusedSimpArgs false
set_option maxRecDepth 100000
namespace Go.Proofs.YtfbggfpihiegpaaGreatDoor
open Go.RowKit

attribute [local go_sem] Oper.semAt_some

theorem pieces_none : pieces [] 46 = [[]] := by decide
structure SfJ (c l D : Nat) (rc : Loop) (w : World) (pre : List (List UInt8)) (W : World) : Prop where
  no : pre = []
  rs : Boxed W c 32 (.int .i64 0)
  lp : W.heap[l]? = some (.loop rc)
  df : W.heap[D]? = some (.deferred (some []))
  bel : Below c w W
structure SfX (c l D : Nat) (rc : Loop) (w : World) (W : World) : Prop where
  rs : Boxed W c 32 (.int .i64 3)
  lp : W.heap[l]? = some (.loop rc)
  df : W.heap[D]? = some (.deferred (some []))
  bel : Below c w W

set_option maxHeartbeats 4000000 in
theorem suffixEmpty_any (w : World) : Calls Tryz.prog 108 #[.string ⟨#[]⟩] w (GivesV (.int .i64 3) w) := by
  refine (callsIn_wide (n := 5)).1 ?_
  refine callsIn_of_wp_marks Tryz.func108 rfl trivial ?_ rfl
  simp only [Tryz.ntmps108, List.size_toArray, List.length_cons, List.length_nil, Nat.reduceAdd, Nat.reduceSub, Array.replicate_succ, Array.replicate_zero, List.push_toArray, List.append_toArray, List.nil_append, List.cons_append]
  gi_wp2
  refine ⟨trivial, ?_⟩
  refine (callsIn_wide.2 (splitSeqFG_any 46 [] _)).mono ?_
  rintro e w1 ⟨rfl, rfl⟩
  obtain ⟨c, hc⟩ : ∃ c, c = w.heap.size := ⟨_, rfl⟩
  have bR := Boxed.new w 32 (.int .i64 0)
  obtain ⟨W0, hW0⟩ : ∃ W, W = w.alloc (.cells #[.int .i64 0] 32) := ⟨_, rfl⟩
  have hz0 : W0.heap.size = c + 1 := by rw [hW0, hc]; simp
  have hb0 : Below c w W0 := by rw [hW0, hc]; exact (Below.refl _ _).alloc (Nat.le_refl _) _
  rw [← hW0] at bR ⊢
  rw [hz0]
  have bS := Boxed.new W0 9 (.string ⟨([] : List UInt8).toArray⟩)
  have bP := Boxed.new (W0.alloc (.cells #[.string ⟨([] : List UInt8).toArray⟩] 9)) 9 (.string ⟨#[46]⟩)
  have bV := Boxed.new ((W0.alloc (.cells #[.string ⟨([] : List UInt8).toArray⟩] 9)).alloc (.cells #[.string ⟨#[46]⟩] 9)) 3 (.int .i64 0)
  rw [World.size_alloc, World.size_alloc, hz0] at bV
  rw [World.size_alloc, hz0] at bP
  rw [hz0] at bS
  rw [← hc] at bR
  obtain ⟨W1, hW1⟩ : ∃ W, W = ((W0.alloc (.cells #[.string ⟨([] : List UInt8).toArray⟩] 9)).alloc (.cells #[.string ⟨#[46]⟩] 9)).alloc (.cells #[.int .i64 0] 3) := ⟨_, rfl⟩
  have hz1 : W1.heap.size = c + 1 + 1 + 1 + 1 := by rw [hW1]; simp [hz0]
  have hB1 : Below c w W1 := by
    rw [hW1]
    exact ((hb0.alloc (by omega) _).alloc (by simp; omega) _).alloc (by simp; omega) _
  have cR : Boxed W1 c 32 (.int .i64 0) := by rw [hW1]; exact ((bR.alloc _).alloc _).alloc _
  have cS : Boxed W1 (c + 1) 9 (.string ⟨([] : List UInt8).toArray⟩) := by rw [hW1]; exact (bS.alloc _).alloc _
  have cP : Boxed W1 (c + 1 + 1) 9 (.string ⟨#[46]⟩) := by rw [hW1]; exact bP.alloc _
  have cV : Boxed W1 (c + 1 + 1 + 1) 3 (.int .i64 0) := by rw [hW1]; exact bV
  replace hz1 := Lib.hid hz1
  replace hc := Lib.hid hc
  clear bR bS bP bV hb0 hz0
  try rw [← hc.out]
  rw [← hW1]
  clear hW1 hW0
  gi_wp2
  refine range_enterI (by decide) (gf := 306) (lb := #[.pointer (some ⟨c + 1 + 1, 0, none⟩), .pointer (some ⟨c + 1, 0, none⟩), .pointer (some ⟨c + 1 + 1 + 1, 0, none⟩)]) (by simp [Act.eval]) (enters_of Tryz.func306 (by kernel_rfl) rfl) ?_
  intro fn rc hrc
  obtain ⟨D, hD⟩ : ∃ D, D = W1.heap.size := ⟨_, rfl⟩
  have hDc : D = c + 1 + 1 + 1 + 1 := by rw [hD]; exact hz1.out
  have hBe : Below c W1 ((W1.alloc (.deferred (some []))).alloc (.loop (rc .ready none))) := ((Below.refl _ W1).alloc (by omega) _).alloc (by simp; omega) _
  have hJ0 : SfJ c (D + 1) D (rc .ready none) w [] ((W1.alloc (.deferred (some []))).alloc (.loop (rc .ready none))) := by
    refine ⟨rfl, (cR.alloc _).alloc _, ?_, ?_, hB1.trans hBe⟩
    · have := World.alloc_heap_new (W1.alloc (.deferred (some []))) (.loop (rc .ready none))
      rw [World.size_alloc, ← hD] at this
      exact this
    · rw [hD]; exact (Below.heap_alloc _ _ _ (by simp)).trans (World.alloc_heap_new W1 _)
  have eS := (cS.alloc (.deferred (some []))).alloc (.loop (rc .ready none))
  have eP := (cP.alloc (.deferred (some []))).alloc (.loop (rc .ready none))
  have eV := (cV.alloc (.deferred (some []))).alloc (.loop (rc .ready none))
  rw [← hD]
  obtain ⟨We, hWe⟩ : ∃ W, W = (W1.alloc (.deferred (some []))).alloc (.loop (rc .ready none)) := ⟨_, rfl⟩
  rw [← hWe] at hBe hJ0 eS eP eV ⊢
  have hB2 := hB1.trans hBe
  replace hDc := Lib.hid hDc
  clear hWe hBe hB1 cR cS cP cV hD
  refine (splitSeqG_in 46 4 (by decide) c (D + 1) (c + 1 + 1) (c + 1) (c + 1 + 1 + 1) (by omega) (by omega) [] (by decide) w (SfJ c (D + 1) D (rc .ready none) w) (fun _ => SfX c (D + 1) D (rc .done (some .ret)) w) (fun pre W v h => ?hH) ?hY We hB2 eP eS eV hJ0).mono ?_
  case hH =>
    have hcl := hDc.out
    exact ⟨h.no, h.rs.other (by omega) v, (Below.heap_setCell _ _ _ _ (by show D + 1 ≠ c + 1; omega)).trans h.lp, (Below.heap_setCell _ _ _ _ (by show D ≠ c + 1; omega)).trans h.df, h.bel.setCell (p := ⟨c + 1, 0, none⟩) (by show c ≤ c + 1; omega) v⟩
  case hY =>
    rintro pre p W ⟨rfl, hv, hl, hD, hB⟩ hpre hp
    have hp0 : p = [] := by
      rw [pieces_none] at hpre
      have := hpre.subset (show p ∈ [] ++ [p] by simp)
      exact List.mem_singleton.1 this
    subst hp0
    have hy := run_yield (P := Tryz.prog) (args := #[.string ⟨([] : List UInt8).toArray⟩]) hl (by rw [hrc]; rfl)
    rw [hrc] at hy
    refine ⟨_, _, _, _, hy, roundIn_of_wpIn trivial ?_⟩
    clear hy hp hpre
    replace hrc := Lib.hid hrc
    simp only [List.zip, Array.zip, List.foldl]
    gi_wp2
    refine ⟨_, run_beginRound hl (by rw [hrc.out]), ?_⟩
    obtain ⟨busy, hbusy⟩ : ∃ o : Loop, o = { rc .ready none with state := .busy } := ⟨_, rfl⟩
    rw [← hbusy]
    obtain ⟨Wb, hWb⟩ : ∃ X, X = W.putObj (D + 1) (.loop busy) := ⟨_, rfl⟩
    rw [← hWb]
    have hlt1 := (Array.getElem?_eq_some_iff.1 hl).1
    have hcl := hDc.out
    have hg2 : W.grownBy Wb (some (D + 1)) := by rw [hWb]; exact grownBy_putObj' _ _ _
    have hvb : Boxed Wb c 32 (.int .i64 0) := hv.kept hg2 (by intro e; have := Option.some.inj e; omega)
    have hlb : Wb.heap[D + 1]? = some (.loop busy) := by rw [hWb]; exact World.putObj_heap_same hlt1
    have hDb : Wb.heap[D]? = some (.deferred (some [])) := by rw [hWb]; exact (World.putObj_heap_other (by omega)).trans hD
    have hszb : Wb.heap.size = W.heap.size := by rw [hWb]; simp
    have hBW : Below c W Wb := (Below.refl c W).grown hg2 (by omega) (fun k e => by have := Option.some.inj e; omega)
    have HL := Lib.hid (isKeyEmptyU_any Wb)
    clear hWb hg2 hv
    gi_wp2
    refine ⟨trivial, ?_⟩
    refine (CallsIn.inRound _ (callsIn_wide.2 HL.out)).mono ?_
    rintro e w3 ⟨rfl, rfl⟩
    have hvS := hvb.set (.int .i64 3)
    have f3 := hvb.frozen
    have c3 := hvb.cell
    gi_wp2
    have hlS := (Below.heap_setCell w3 ⟨c, 0, none⟩ (.int .i64 3) (D + 1) (by show D + 1 ≠ c; omega)).trans hlb
    have hDS := (Below.heap_setCell w3 ⟨c, 0, none⟩ (.int .i64 3) D (by show D ≠ c; omega)).trans hDb
    have hBS := (hB.trans hBW).setCell (p := ⟨c, 0, none⟩) (Nat.le_refl _) (.int .i64 3)
    have hBWS := hBW.setCell (p := ⟨c, 0, none⟩) (Nat.le_refl _) (.int .i64 3)
    have hltS := (Array.getElem?_eq_some_iff.1 hlS).1
    refine ⟨_, _, run_endRound (some .ret) hlS, .inr ⟨rfl, ⟨?_, ?_, ?_, ?_⟩, ?_⟩⟩
    · exact hvS.kept (grownBy_putObj' _ _ _) (by intro e; have := Option.some.inj e; omega)
    · rw [hbusy, hrc.out]; exact World.putObj_heap_same hltS
    · exact (World.putObj_heap_other (by omega)).trans hDS
    · exact hBS.grown (grownBy_putObj' _ _ _) (by have := hBS.size; have := hvb.lt; omega) (fun k e => by have := Option.some.inj e; omega)
    · exact hBWS.grown (grownBy_putObj' _ _ _) (by have := hvb.lt; have := hBWS.size; omega) (fun k e => by have := Option.some.inj e; omega)
  · rintro e W2 ⟨⟨v0, rfl⟩, hor, hBel⟩
    have hcl := hDc.out
    rcases hor with hJ | ⟨pre, hpre, hv, hl, hD, hB⟩
    · have := hJ.no
      rw [pieces_none] at this
      cases this
    · have hel := run_endLoop (P := Tryz.prog) hl (by rw [hrc]; simp)
      obtain ⟨W3, hW3⟩ : ∃ X, X = W2.putObj (D + 1) (.loop { rc .done (some .ret) with state := .exhausted }) := ⟨_, rfl⟩
      rw [← hW3] at hel
      refine ⟨some .ret, W3, by rw [hel, hrc], ?_⟩
      have hg := grownBy_putObj' W2 (D + 1) (.loop { rc .done (some .ret) with state := .exhausted })
      rw [← hW3] at hg
      have hv3 := hv.kept hg (by intro e; have := Option.some.inj e; omega)
      have hD3 : W3.heap[D]? = some (.deferred (some [])) := by rw [hW3]; exact (World.putObj_heap_other (by omega)).trans hD
      have hB3 : Below c w W3 := hB.grown hg (by have := hv.lt; omega) (fun k e => by have := Option.some.inj e; omega)
      clear hv hl hD hg hW3 hel hBel hB
      show Code.wpIn _ _ _ _ _ _ _
      gi_wp2
      have g2 := (Boxed.kept (hv3) (grownBy_putObj' _ (c + 1 + 1 + 1 + 1) (.deferred none)) (by intro e; have := Option.some.inj e; omega)).cell
      rw [hDc.out] at hD3
      have hBf := hB3.grown (grownBy_putObj' _ (c + 1 + 1 + 1 + 1) (.deferred none)) (by have := (hv3).lt; omega) (fun k e => by have := Option.some.inj e; omega)
      refine ⟨by simp, .inl ⟨_, _, rfl, run_takeDeferred hD3, ?_⟩⟩
      refine ⟨.int .i64 3, ?_, rfl, by rw [← hc.out]; exact hBf⟩
      simp [results, Tryz.results108, go_sem, g2]
end Go.Proofs.YtfbggfpihiegpaaGreatDoor
namespace Go.Proofs.YtfbggfpihiegpaaGreatDoor
open Go.RowKit

set_option maxHeartbeats 1000000 in
theorem risingA_any (g : Nat) (w : World) (hL : Blk w g [.string ⟨#[97]⟩] 9) : Calls Tryz.prog 99 #[.slice (some ⟨g, 0, none⟩) 1 1, .int .i64 499, .func (.func 100) #[] #[], .func (.func 101) #[] #[], .slice none 0 0] w (fun e w' => e = .returned (.int .i64 0) ∧ w = w') := by
  have x0 := hL.cell (i := 0) rfl
  go_enter Tryz.func99, Tryz.ntmps99
  go_wp2_with fail
  refine wp_loop_rounds 3 ?_
  rw [rounds_succ]
  go_wp2_with fail
  refine (keyA_any _).mono ?_
  rintro e w2 ⟨rfl, rfl⟩
  go_wp2_with fail
  refine wp_loop_rounds 2 ?_
  rw [rounds_succ]
  go_wp2_with fail
  rw [rounds_succ]
  go_wp2_with fail
  go_ret
  exact ⟨rfl, rfl⟩

theorem allIn2 {P : Nat → Prop} {a b : Nat} (ha : P a) (hb : P b) : ∀ q ∈ [a, b], P q := by
  intro q hq
  simp only [List.mem_cons, List.not_mem_nil, or_false] at hq
  rcases hq with h | h
  · rw [h]; exact ha
  · rw [h]; exact hb
theorem allIn1 {P : Nat → Prop} {a : Nat} (ha : P a) : ∀ q ∈ [a], P q := by
  intro q hq
  simp only [List.mem_cons, List.not_mem_nil, or_false] at hq
  rw [hq]; exact ha
abbrev zPe : Value := .agg #[.string ⟨#[]⟩, .string ⟨#[]⟩, .slice none 0 0, .slice none 0 0]
theorem findKeyU (s : ByteArray) (w : World) : (Instr.findKey 9 (.string s) []).run Tryz.prog w = .ok none w := by kernel_rfl
theorem checkKeyU (s : ByteArray) (w : World) : (Instr.checkKey true 10000 9 (.string s)).run Tryz.prog w = .ok () w := by kernel_rfl
theorem zeroPe_run (w : World) : (zeroValue 170).run Tryz.prog w = .ok zPe w := by kernel_rfl
theorem zeroB_run (w : World) : (zeroValue 4).run Tryz.prog w = .ok (.bool false) w := by kernel_rfl
theorem lookup_none {t e : TypeId} {z : Value} {b : Nat} {w : World} (s : ByteArray) (ht : Tryz.prog.underlying t = some (.map 9 e)) (hz : (zeroValue e).run Tryz.prog w = .ok z w) (hb : w.heap[b]? = some (.map #[] 0)) (c : Bool) :
    (Instr.lookup t (.map (some b)) (.string s) c).run Tryz.prog w = .ok (if c then .tuple #[z, .bool false] else z) w := by
  simp [Instr.lookup, run_underlying ht, MapKept.run_getObj_map hb, checkKeyU, hz, Result.andThen, findKeyU]
abbrev paC (gone : Value) : List Value := [gone, .slice none 0 0, .bool false, .bool false, .bool false, .string ⟨#[]⟩, .string ⟨#[]⟩, .string ⟨#[]⟩, .slice none 0 0, .slice none 0 0, .slice none 0 0, .slice none 0 0, .string ⟨#[]⟩]
set_option maxHeartbeats 4000000 in
theorem checkPatchA_any (g : Nat) (w : World) (hG : Blk w g [.string ⟨#[97]⟩] 9) : Calls Tryz.prog 59 #[.agg (paC (.slice (some ⟨g, 0, none⟩) 1 1)).toArray] w (GivesV (.int .i64 0) w) := by
  have hX := Blk.new w (paC (.slice (some ⟨g, 0, none⟩) 1 1)) 88
  have hbw : Below w.heap.size w (w.alloc (.cells (paC (.slice (some ⟨g, 0, none⟩) 1 1)).toArray 88)) := (Below.refl _ _).alloc (Nat.le_refl _) _
  replace hG := hG.alloc (.cells (paC (.slice (some ⟨g, 0, none⟩) 1 1)).toArray 88)
  go_enter Tryz.func59, Tryz.ntmps59
  go_upto_region 1 with fail
  refine wb_begin ([w.heap.size, g]) [] (by kernel_rfl) (fun u0 hb0' hz0' => ?_)
  replace hX := hX.below hb0'
  replace hG := hG.below hb0'
  replace hbw := hbw.trans (hb0'.mono hbw.size)
  clear hb0' hz0'
  refine wb_pureZ 0 (some 9) (v := ?_) ?_ ?_; rotate_left; · (intro u; go_simp; try with_reducible rfl)
  try simp only [Act.put, gzD, gzE, gzF]
  refine wb_takeZ 1 (some 10) (v := ?_) ?_ ?_; rotate_left; · (intro u hu; have ka := hX.kb hu (by simp); have a0 := ka.cell (i := 0) rfl; have a1 := ka.cell (i := 1) rfl; clear ka; go_simp; try with_reducible rfl)
  try simp only [Act.put, gzD, gzE, gzF]
  refine wb_pureZ 3 (some 12) (v := ?_) ?_ ?_; rotate_left; · (intro u; go_simp; try with_reducible rfl)
  try simp only [Act.put, gzD, gzE, gzF]
  refine wb_takeZ 4 (some 13) (v := ?_) ?_ ?_; rotate_left; · (intro u hu; have ka := hX.kb hu (by simp); have a0 := ka.cell (i := 0) rfl; have a1 := ka.cell (i := 1) rfl; clear ka; go_simp; try with_reducible rfl)
  try simp only [Act.put, gzD, gzE, gzF]
  refine wb_oneZ 2 (fun K hK => ?_)
  go_simp
  refine (risingA_any g _ hG).mono ?_
  rintro e wq2 ⟨rfl, rfl⟩
  refine hK _ _ (Kb.refl _ _) ?_
  clear hK K
  try simp only [Act.put, gzD, gzE, gzF]
  refine wb_oneZ 5 (fun K hK => ?_)
  go_simp
  refine (checkPeersNil_any _).mono ?_
  rintro e wq5 ⟨rfl, hq5⟩
  refine hK _ _ (Kb.below hq5 (allIn2 hX.lt hG.lt)) ?_
  replace hq5 := hq5
  replace hX := hX.below hq5
  replace hG := hG.below hq5
  replace hbw := hbw.trans (hq5.mono hbw.size)
  clear hK K hq5
  try simp only [Act.put, gzD, gzE, gzF]
  refine wb_oneZ 6 (fun K hK => ?_)
  go_simp
  refine hK _ _ (Kb.gb (World.grownBy_alloc _ _ none) (allIn2 ⟨hX.lt, by simp⟩ ⟨hG.lt, by simp⟩)) ?_
  refine wb_new (cs := ([0, 0] : List Int).map (Value.int .i64)) (t := 32) (fun u91 hv3 hL3 hz3 => ?_)
  replace hX := hX.below hv3
  replace hG := hG.below hv3
  replace hbw := hbw.trans (hv3.mono hbw.size)
  clear hK K hv3 hz3
  try simp only [Act.put, gzD, gzE, gzF]
  refine wb_oneZ 7 (fun K hK => ?_)
  go_simp
  refine (orU_blk [0, 0] _ _ _ _ hL3 (by decide)).mono ?_
  rintro e w' ⟨rfl, rfl⟩
  refine hK _ _ (Kb.refl _ _) ?_
  clear hK K hL3
  try simp only [Act.put, gzD, gzE, gzF]
  refine wb_pureZ 8 (some 3) (v := ?_) ?_ ?_; rotate_left; · (intro u; go_simp; try with_reducible rfl)
  try simp only [Act.put, gzD, gzE, gzF]
  refine wb_done (by kernel_rfl) ?_ _
  skip
  have b0 := hX.cell (i := 0) rfl
  have b1 := hX.cell (i := 1) rfl
  go_wp2_with fail
  refine (byKeysNil_any _).mono ?_
  rintro e w2 ⟨rfl, rfl⟩
  have hM : (u91.alloc (.map #[] 0)).heap[u91.heap.size]? = some (.map #[] 0) := (MapKept.heap_alloc u91 _).1
  have hz1 : (u91.alloc (.map #[] 0)).heap.size = u91.heap.size + 1 := by simp
  obtain ⟨w1, hw1⟩ : ∃ x, x = u91.alloc (.map #[] 0) := ⟨_, rfl⟩
  have hX1 : Blk w1 w.heap.size (paC (.slice (some ⟨g, 0, none⟩) 1 1)) 88 := by rw [hw1]; exact hX.alloc _
  have hG1 : Blk w1 g [.string ⟨#[97]⟩] 9 := by rw [hw1]; exact hG.alloc _
  have hb1 : Below w.heap.size w w1 := by rw [hw1]; exact hbw.alloc hbw.size _
  rw [← hw1] at hM hz1 ⊢
  clear hw1 hX hG hbw b0 b1
  have hlk := lookup_none ⟨#[97]⟩ Tryz.underlying167 (zeroPe_run w1) hM true
  simp only [if_true] at hlk
  have b0 := hX1.cell (i := 0) rfl
  have g0 := hG1.cell (i := 0) rfl
  go_wp2_with fail
  refine wp_loop_rounds 2 ?_
  rw [rounds_succ]
  go_wp2_with fail
  rw [rounds_succ]
  go_wp2_with fail
  obtain ⟨w3, hw3⟩ : ∃ x, x = w1.alloc (.cells #[.string ⟨#[]⟩, .string ⟨#[]⟩, .slice none 0 0, .slice none 0 0] 170) := ⟨_, rfl⟩
  have hX : Blk w3 w.heap.size (paC (.slice (some ⟨g, 0, none⟩) 1 1)) 88 := by rw [hw3]; exact hX1.alloc _
  have hG : Blk w3 g [.string ⟨#[97]⟩] 9 := by rw [hw3]; exact hG1.alloc _
  have hbw : Below w.heap.size w w3 := by rw [hw3]; exact hb1.alloc hb1.size _
  rw [← hw3]
  clear hw3 hX1 hG1 hb1 hM hlk hz1 b0 g0
  refine wb_begin ([w.heap.size, g]) [] (by kernel_rfl) (fun u0 hb0' hz0' => ?_)
  replace hX := hX.below hb0'
  replace hG := hG.below hb0'
  replace hbw := hbw.trans (hb0'.mono hbw.size)
  clear hb0' hz0'
  refine wb_pureZ 0 (some 38) (v := ?_) ?_ ?_; rotate_left; · (intro u; go_simp; try with_reducible rfl)
  try simp only [Act.put, gzD, gzE, gzF]
  refine wb_takeZ 1 (some 39) (v := ?_) ?_ ?_; rotate_left; · (intro u hu; have ka := hX.kb hu (by simp); have a2 := ka.cell (i := 2) rfl; have a3 := ka.cell (i := 3) rfl; have a4 := ka.cell (i := 4) rfl; have a5 := ka.cell (i := 5) rfl; have a6 := ka.cell (i := 6) rfl; have a7 := ka.cell (i := 7) rfl; have a8 := ka.cell (i := 8) rfl; have a9 := ka.cell (i := 9) rfl; have a10 := ka.cell (i := 10) rfl; have a11 := ka.cell (i := 11) rfl; have a12 := ka.cell (i := 12) rfl; clear ka; go_simp; try with_reducible rfl)
  try simp only [Act.put, gzD, gzE, gzF]
  refine wb_pureZ 2 (some 40) (v := ?_) ?_ ?_; rotate_left; · (intro u; go_simp; try with_reducible rfl)
  try simp only [Act.put, gzD, gzE, gzF]
  refine wb_takeZ 3 (some 41) (v := ?_) ?_ ?_; rotate_left; · (intro u hu; have ka := hX.kb hu (by simp); have a2 := ka.cell (i := 2) rfl; have a3 := ka.cell (i := 3) rfl; have a4 := ka.cell (i := 4) rfl; have a5 := ka.cell (i := 5) rfl; have a6 := ka.cell (i := 6) rfl; have a7 := ka.cell (i := 7) rfl; have a8 := ka.cell (i := 8) rfl; have a9 := ka.cell (i := 9) rfl; have a10 := ka.cell (i := 10) rfl; have a11 := ka.cell (i := 11) rfl; have a12 := ka.cell (i := 12) rfl; clear ka; go_simp; try with_reducible rfl)
  try simp only [Act.put, gzD, gzE, gzF]
  refine wb_pureZ 5 (some 43) (v := ?_) ?_ ?_; rotate_left; · (intro u; go_simp; try with_reducible rfl)
  try simp only [Act.put, gzD, gzE, gzF]
  refine wb_takeZ 6 (some 44) (v := ?_) ?_ ?_; rotate_left; · (intro u hu; have ka := hX.kb hu (by simp); have a2 := ka.cell (i := 2) rfl; have a3 := ka.cell (i := 3) rfl; have a4 := ka.cell (i := 4) rfl; have a5 := ka.cell (i := 5) rfl; have a6 := ka.cell (i := 6) rfl; have a7 := ka.cell (i := 7) rfl; have a8 := ka.cell (i := 8) rfl; have a9 := ka.cell (i := 9) rfl; have a10 := ka.cell (i := 10) rfl; have a11 := ka.cell (i := 11) rfl; have a12 := ka.cell (i := 12) rfl; clear ka; go_simp; try with_reducible rfl)
  try simp only [Act.put, gzD, gzE, gzF]
  refine wb_pureZ 7 (some 45) (v := ?_) ?_ ?_; rotate_left; · (intro u; go_simp; try with_reducible rfl)
  try simp only [Act.put, gzD, gzE, gzF]
  refine wb_pureZ 10 (some 48) (v := ?_) ?_ ?_; rotate_left; · (intro u; go_simp; try with_reducible rfl)
  try simp only [Act.put, gzD, gzE, gzF]
  refine wb_takeZ 11 (some 49) (v := ?_) ?_ ?_; rotate_left; · (intro u hu; have ka := hX.kb hu (by simp); have a2 := ka.cell (i := 2) rfl; have a3 := ka.cell (i := 3) rfl; have a4 := ka.cell (i := 4) rfl; have a5 := ka.cell (i := 5) rfl; have a6 := ka.cell (i := 6) rfl; have a7 := ka.cell (i := 7) rfl; have a8 := ka.cell (i := 8) rfl; have a9 := ka.cell (i := 9) rfl; have a10 := ka.cell (i := 10) rfl; have a11 := ka.cell (i := 11) rfl; have a12 := ka.cell (i := 12) rfl; clear ka; go_simp; try with_reducible rfl)
  try simp only [Act.put, gzD, gzE, gzF]
  refine wb_pureZ 12 (some 50) (v := ?_) ?_ ?_; rotate_left; · (intro u; go_simp; try with_reducible rfl)
  try simp only [Act.put, gzD, gzE, gzF]
  refine wb_takeZ 13 (some 51) (v := ?_) ?_ ?_; rotate_left; · (intro u hu; have ka := hX.kb hu (by simp); have a2 := ka.cell (i := 2) rfl; have a3 := ka.cell (i := 3) rfl; have a4 := ka.cell (i := 4) rfl; have a5 := ka.cell (i := 5) rfl; have a6 := ka.cell (i := 6) rfl; have a7 := ka.cell (i := 7) rfl; have a8 := ka.cell (i := 8) rfl; have a9 := ka.cell (i := 9) rfl; have a10 := ka.cell (i := 10) rfl; have a11 := ka.cell (i := 11) rfl; have a12 := ka.cell (i := 12) rfl; clear ka; go_simp; try with_reducible rfl)
  try simp only [Act.put, gzD, gzE, gzF]
  refine wb_pureZ 15 (some 53) (v := ?_) ?_ ?_; rotate_left; · (intro u; go_simp; try with_reducible rfl)
  try simp only [Act.put, gzD, gzE, gzF]
  refine wb_takeZ 16 (some 54) (v := ?_) ?_ ?_; rotate_left; · (intro u hu; have ka := hX.kb hu (by simp); have a2 := ka.cell (i := 2) rfl; have a3 := ka.cell (i := 3) rfl; have a4 := ka.cell (i := 4) rfl; have a5 := ka.cell (i := 5) rfl; have a6 := ka.cell (i := 6) rfl; have a7 := ka.cell (i := 7) rfl; have a8 := ka.cell (i := 8) rfl; have a9 := ka.cell (i := 9) rfl; have a10 := ka.cell (i := 10) rfl; have a11 := ka.cell (i := 11) rfl; have a12 := ka.cell (i := 12) rfl; clear ka; go_simp; try with_reducible rfl)
  try simp only [Act.put, gzD, gzE, gzF]
  refine wb_pureZ 17 (some 55) (v := ?_) ?_ ?_; rotate_left; · (intro u; go_simp; try with_reducible rfl)
  try simp only [Act.put, gzD, gzE, gzF]
  refine wb_pureZ 18 (some 56) (v := ?_) ?_ ?_; rotate_left; · (intro u; go_simp; try with_reducible rfl)
  try simp only [Act.put, gzD, gzE, gzF]
  refine wb_pureZ 20 (some 58) (v := ?_) ?_ ?_; rotate_left; · (intro u; go_simp; try with_reducible rfl)
  try simp only [Act.put, gzD, gzE, gzF]
  refine wb_takeZ 21 (some 59) (v := ?_) ?_ ?_; rotate_left; · (intro u hu; have ka := hX.kb hu (by simp); have a2 := ka.cell (i := 2) rfl; have a3 := ka.cell (i := 3) rfl; have a4 := ka.cell (i := 4) rfl; have a5 := ka.cell (i := 5) rfl; have a6 := ka.cell (i := 6) rfl; have a7 := ka.cell (i := 7) rfl; have a8 := ka.cell (i := 8) rfl; have a9 := ka.cell (i := 9) rfl; have a10 := ka.cell (i := 10) rfl; have a11 := ka.cell (i := 11) rfl; have a12 := ka.cell (i := 12) rfl; clear ka; go_simp; try with_reducible rfl)
  try simp only [Act.put, gzD, gzE, gzF]
  refine wb_pureZ 22 (some 60) (v := ?_) ?_ ?_; rotate_left; · (intro u; go_simp; try with_reducible rfl)
  try simp only [Act.put, gzD, gzE, gzF]
  refine wb_takeZ 23 (some 61) (v := ?_) ?_ ?_; rotate_left; · (intro u hu; have ka := hX.kb hu (by simp); have a2 := ka.cell (i := 2) rfl; have a3 := ka.cell (i := 3) rfl; have a4 := ka.cell (i := 4) rfl; have a5 := ka.cell (i := 5) rfl; have a6 := ka.cell (i := 6) rfl; have a7 := ka.cell (i := 7) rfl; have a8 := ka.cell (i := 8) rfl; have a9 := ka.cell (i := 9) rfl; have a10 := ka.cell (i := 10) rfl; have a11 := ka.cell (i := 11) rfl; have a12 := ka.cell (i := 12) rfl; clear ka; go_simp; try with_reducible rfl)
  try simp only [Act.put, gzD, gzE, gzF]
  refine wb_pureZ 25 (some 63) (v := ?_) ?_ ?_; rotate_left; · (intro u; go_simp; try with_reducible rfl)
  try simp only [Act.put, gzD, gzE, gzF]
  refine wb_takeZ 26 (some 64) (v := ?_) ?_ ?_; rotate_left; · (intro u hu; have ka := hX.kb hu (by simp); have a2 := ka.cell (i := 2) rfl; have a3 := ka.cell (i := 3) rfl; have a4 := ka.cell (i := 4) rfl; have a5 := ka.cell (i := 5) rfl; have a6 := ka.cell (i := 6) rfl; have a7 := ka.cell (i := 7) rfl; have a8 := ka.cell (i := 8) rfl; have a9 := ka.cell (i := 9) rfl; have a10 := ka.cell (i := 10) rfl; have a11 := ka.cell (i := 11) rfl; have a12 := ka.cell (i := 12) rfl; clear ka; go_simp; try with_reducible rfl)
  try simp only [Act.put, gzD, gzE, gzF]
  refine wb_pureZ 27 (some 65) (v := ?_) ?_ ?_; rotate_left; · (intro u; go_simp; try with_reducible rfl)
  try simp only [Act.put, gzD, gzE, gzF]
  refine wb_oneZ 4 (fun K hK => ?_)
  go_simp
  refine (checkSelfZero_any _).mono ?_
  rintro e wq4 ⟨rfl, hq4⟩
  refine hK _ _ (Kb.below hq4 (allIn2 hX.lt hG.lt)) ?_
  replace hq4 := hq4
  replace hX := hX.below hq4
  replace hG := hG.below hq4
  replace hbw := hbw.trans (hq4.mono hbw.size)
  clear hK K hq4
  try simp only [Act.put, gzD, gzE, gzF]
  refine wb_oneZ 8 (fun K hK => ?_)
  go_simp
  refine (sameNodeZero_any _).mono ?_
  rintro e wq8 ⟨rfl, hq8⟩
  refine hK _ _ (Kb.below hq8 (allIn2 hX.lt hG.lt)) ?_
  replace hq8 := hq8
  replace hX := hX.below hq8
  replace hG := hG.below hq8
  replace hbw := hbw.trans (hq8.mono hbw.size)
  clear hK K hq8
  try simp only [Act.put, gzD, gzE, gzF]
  refine wb_oneZ 9 (fun K hK => ?_)
  go_simp
  refine (checkHadNo_any _ _).mono ?_
  rintro e wq9 ⟨rfl, rfl⟩
  refine hK _ _ (Kb.refl _ _) ?_
  clear hK K
  try simp only [Act.put, gzD, gzE, gzF]
  refine wb_oneZ 14 (fun K hK => ?_)
  go_simp
  refine (filterNil_any _).mono ?_
  rintro e wq14 ⟨rfl, hq14⟩
  refine hK _ _ (Kb.below hq14 (allIn2 hX.lt hG.lt)) ?_
  replace hq14 := hq14
  replace hX := hX.below hq14
  replace hG := hG.below hq14
  replace hbw := hbw.trans (hq14.mono hbw.size)
  clear hK K hq14
  try simp only [Act.put, gzD, gzE, gzF]
  refine wb_oneZ 19 (fun K hK => ?_)
  go_simp
  refine (checkHadNo_any _ _).mono ?_
  rintro e wq19 ⟨rfl, rfl⟩
  refine hK _ _ (Kb.refl _ _) ?_
  clear hK K
  try simp only [Act.put, gzD, gzE, gzF]
  refine wb_oneZ 24 (fun K hK => ?_)
  go_simp
  refine (suffixEmpty_any _).mono ?_
  rintro e wq24 ⟨rfl, hq24⟩
  refine hK _ _ (Kb.below hq24 (allIn2 hX.lt hG.lt)) ?_
  replace hq24 := hq24
  replace hX := hX.below hq24
  replace hG := hG.below hq24
  replace hbw := hbw.trans (hq24.mono hbw.size)
  clear hK K hq24
  try simp only [Act.put, gzD, gzE, gzF]
  refine wb_oneZ 28 (fun K hK => ?_)
  go_simp
  refine (checkHadNo_any _ _).mono ?_
  rintro e wq28 ⟨rfl, rfl⟩
  refine hK _ _ (Kb.refl _ _) ?_
  clear hK K
  try simp only [Act.put, gzD, gzE, gzF]
  refine wb_oneZ 29 (fun K hK => ?_)
  go_simp
  refine hK _ _ (Kb.gb (World.grownBy_alloc _ _ none) (allIn2 ⟨hX.lt, by simp⟩ ⟨hG.lt, by simp⟩)) ?_
  refine wb_new (cs := ([0, 0, 0] : List Int).map (Value.int .i64)) (t := 32) (fun u91 hv3 hL3 hz3 => ?_)
  replace hX := hX.below hv3
  replace hG := hG.below hv3
  replace hbw := hbw.trans (hv3.mono hbw.size)
  clear hK K hv3 hz3
  try simp only [Act.put, gzD, gzE, gzF]
  refine wb_oneZ 30 (fun K hK => ?_)
  go_simp
  refine (orU_blk [0, 0, 0] _ _ _ _ hL3 (by decide)).mono ?_
  rintro e w' ⟨rfl, rfl⟩
  refine hK _ _ (Kb.refl _ _) ?_
  clear hK K hL3
  try simp only [Act.put, gzD, gzE, gzF]
  refine wb_pureZ 31 (some 2) (v := ?_) ?_ ?_; rotate_left; · (intro u; go_simp; try with_reducible rfl)
  try simp only [Act.put, gzD, gzE, gzF]
  refine wb_done (by kernel_rfl) ?_ _
  skip
  go_wp2_with fail
  go_ret
  exact ⟨rfl, hbw⟩
end Go.Proofs.YtfbggfpihiegpaaGreatDoor
