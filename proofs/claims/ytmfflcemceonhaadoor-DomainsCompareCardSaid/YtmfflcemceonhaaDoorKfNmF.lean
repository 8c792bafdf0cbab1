/- Domain names: the program's check. -/
import Derived.Test.YtmfflcemceonhaaDoorKfNmE
namespace Go.Proofs.YtmfflcemceonhaaDoor
open Go.RowKit
set_option linter.unusedVariables false
set_option linter.unusedSimpArgs false

attribute [local go_sem] Oper.semAt_some

set_option maxHeartbeats 1000000 in
theorem splitSeqI_any (l : List UInt8) (w : World) :
    Calls Tryd.prog 35 #[.string ⟨l.toArray⟩, .string ⟨#[46]⟩, .int .i64 0] w fun e w' => e = .returned (.func (.func 50) #[] #[.pointer (some ⟨w.heap.size + 1, 0, none⟩), .pointer (some ⟨w.heap.size, 0, none⟩), .pointer (some ⟨w.heap.size + 1 + 1, 0, none⟩)]) ∧ w' = ((w.alloc (.cells #[.string ⟨l.toArray⟩] 9)).alloc (.cells #[.string ⟨#[46]⟩] 9)).alloc (.cells #[.int .i64 0] 3) := by
  go_enter Tryd.func35, Tryd.ntmps35
  go_wp2_with fail
  go_ret
  exact ⟨rfl, rfl⟩
theorem splitSeqF_any (l : List UInt8) (w : World) :
    Calls Tryd.prog 19 #[.string ⟨l.toArray⟩, .string ⟨#[46]⟩] w fun e w' => e = .returned (.func (.func 50) #[] #[.pointer (some ⟨w.heap.size + 1, 0, none⟩), .pointer (some ⟨w.heap.size, 0, none⟩), .pointer (some ⟨w.heap.size + 1 + 1, 0, none⟩)]) ∧ w' = ((w.alloc (.cells #[.string ⟨l.toArray⟩] 9)).alloc (.cells #[.string ⟨#[46]⟩] 9)).alloc (.cells #[.int .i64 0] 3) := by
  go_enter Tryd.func19, Tryd.ntmps19
  go_wp2_with fail
  refine (splitSeqI_any l w).mono ?_
  rintro e w1 ⟨rfl, rfl⟩
  go_wp2_with fail
  go_ret
  exact ⟨rfl, rfl⟩

/-- A loop over a function is entered: the call that is left to be walked. -/
theorem range_enterN {P : Program} {n gf : Nat} {lb : Array Value} {g : Operand} {ps : Array Tmp} {assign body : Code} {Q : Exit → Act → World → Prop} {a : Act} {w : World} (h1 : 1 ≤ n) (hg : a.eval g = .func (.func gf) #[] lb) (eg : ∀ args w, (callFunc gf args).run P w = .ok (.enter gf args) w)
    (h : ∀ (fn : FuncId) (rc : LoopState → Option Code → Loop), rc = (fun st pe => { state := st, pending := pe, fn, tmps := a.tmps, params := ps, assign, body, defers := w.heap.size }) →
      CallsIn Fence.wide (n - 1) P gf (#[.func (.yield (w.heap.size + 1)) #[] #[]] ++ lb) ((w.alloc (.deferred (some []))).alloc (.loop (rc .ready none))) (rangePost Fence.wide n P (w.heap.size + 1) Q { a with defers := { target := .collected w.heap.size, args := #[] } :: a.defers })) :
    (Code.rangeFunc g ps assign body).wpIn Fence.wide n P Q a w := by
  refine wpIn_rangeFunc ?_
  intro fn _
  obtain ⟨rc, hrc⟩ : ∃ rc : LoopState → Option Code → Loop, rc = fun st pe => { state := st, pending := pe, fn, tmps := a.tmps, params := ps, assign, body, defers := w.heap.size } := ⟨_, rfl⟩
  have hc := h fn rc hrc
  obtain ⟨W1, hW1⟩ : ∃ W1, W1 = (w.alloc (.deferred (some []))).alloc (.loop (rc .ready none)) := ⟨_, rfl⟩
  rw [← hW1] at hc
  refine ⟨w.heap.size + 1, [{ target := .collected w.heap.size, args := #[] }], W1, { target := .fn (.func gf) lb, args := #[.func (.yield (w.heap.size + 1)) #[] #[]] }, W1, gf, #[.func (.yield (w.heap.size + 1)) #[] #[]] ++ lb, W1, ?_, ?_, ?_, ?_, fun _ => h1, ?_⟩
  · rw [hW1, hrc]; exact run_enterLoop_outer _ _ _ _ _
  · simp only [resolve, hg]
    simp [go_sem]
  · exact fun _ _ => trivial
  · simp [invoke, go_sem, eg]
  · exact hc

/-- What CheckDomain's loop says of its own state. -/
def DomJ (c l D : Nat) (rc : Loop) (z : Int) (b : Bool) (pre : List (List UInt8)) (W : World) : Prop :=
  Boxed W c 27 (.int .i64 z) ∧ W.heap[l]? = some (.loop rc) ∧ W.heap[D]? = some (.deferred (some [])) ∧ pre.all labB = b
theorem domJ_host {n0 c l D : Nat} {rc : Loop} {z : Int} (hb : n0 ≤ c ∧ n0 ≤ l ∧ n0 ≤ D) : HostN (DomJ c l D rc z true) n0 c l D := by
  refine ⟨?_, hb⟩
  rintro pre W W' ⟨h1, h2, h3, h4⟩ hs hk
  exact ⟨(hk c (.inl rfl)).trans h1, (hk l (.inr (.inl rfl))).trans h2, (hk D (.inr (.inr rfl))).trans h3, h4⟩

set_option maxRecDepth 100000 in
set_option maxHeartbeats 4000000 in
theorem checkDomain_any (l : List UInt8) (w : World) (hl : l.length ≤ 100000) : Calls Tryd.prog 7 #[.string ⟨l.toArray⟩] w (GivesV (.int .i64 (domF l)) w) := by
  by_cases h253 : 253 < l.length
  · have hV := Lib.hid (show domF l = 2 by unfold domF; rw [if_pos h253])
    have h253' : (253 : Int) < l.length := by omega
    have hB := Boxed.new w 27 (.int .i64 2)
    have g2 := hB.cell
    have hbw : Below w.heap.size w (w.alloc (.cells #[.int .i64 2] 27)) := (Below.refl _ _).alloc (Nat.le_refl _) _
    clear h253
    go_enter Tryd.func7, Tryd.ntmps7
    go_wp2_with fail
    refine bodyPost_ret (v := .int .i64 2) ?_ rfl ⟨by rw [hV.out], hbw⟩
    simp [results, Tryd.results7, go_sem, g2]
  · have hV := Lib.hid (show domF l = if (pieces l 46).all labB then 0 else 5 by unfold domF; rw [if_neg h253])
    have h253' : ¬ (253 : Int) < l.length := by omega
    have hl' := Lib.hid hl
    clear h253 hl
    refine (callsIn_wide (n := 5)).1 ?_
    refine callsIn_of_wp_marks Tryd.func7 rfl trivial ?_ rfl
    simp only [Tryd.ntmps7, List.size_toArray, List.length_cons, List.length_nil, Nat.reduceAdd, Nat.reduceSub, Array.replicate_succ, Array.replicate_zero, List.push_toArray, List.append_toArray, List.nil_append, List.cons_append]
    gi_wp2
    refine ⟨trivial, ?_⟩
    refine (callsIn_wide.2 (splitSeqF_any l _)).mono ?_
    rintro e w1 ⟨rfl, rfl⟩
    obtain ⟨c, hc⟩ : ∃ c, c = w.heap.size := ⟨_, rfl⟩
    have bR := Boxed.new w 27 (.int .i64 0)
    obtain ⟨W0, hW0⟩ : ∃ W, W = w.alloc (.cells #[.int .i64 0] 27) := ⟨_, rfl⟩
    have hz0 : W0.heap.size = c + 1 := by rw [hW0, hc]; simp
    have hb0 : Below c w W0 := by rw [hW0, hc]; exact (Below.refl _ _).alloc (Nat.le_refl _) _
    rw [← hW0] at bR ⊢
    rw [hz0]
    have bS := Boxed.new W0 9 (.string ⟨l.toArray⟩)
    have bP := Boxed.new (W0.alloc (.cells #[.string ⟨l.toArray⟩] 9)) 9 (.string ⟨#[46]⟩)
    have bV := Boxed.new ((W0.alloc (.cells #[.string ⟨l.toArray⟩] 9)).alloc (.cells #[.string ⟨#[46]⟩] 9)) 3 (.int .i64 0)
    rw [World.size_alloc, World.size_alloc, hz0] at bV
    rw [World.size_alloc, hz0] at bP
    rw [hz0] at bS
    rw [← hc] at bR
    obtain ⟨W1, hW1⟩ : ∃ W, W = ((W0.alloc (.cells #[.string ⟨l.toArray⟩] 9)).alloc (.cells #[.string ⟨#[46]⟩] 9)).alloc (.cells #[.int .i64 0] 3) := ⟨_, rfl⟩
    have hz1 : W1.heap.size = c + 1 + 1 + 1 + 1 := by rw [hW1]; simp [hz0]
    have hB1 : Below c w W1 := by
      rw [hW1]
      exact ((hb0.alloc (by omega) _).alloc (by simp; omega) _).alloc (by simp; omega) _
    have cR : Boxed W1 c 27 (.int .i64 0) := by rw [hW1]; exact ((bR.alloc _).alloc _).alloc _
    have cS : Boxed W1 (c + 1) 9 (.string ⟨l.toArray⟩) := by rw [hW1]; exact (bS.alloc _).alloc _
    have cP : Boxed W1 (c + 1 + 1) 9 (.string ⟨#[46]⟩) := by rw [hW1]; exact bP.alloc _
    have cV : Boxed W1 (c + 1 + 1 + 1) 3 (.int .i64 0) := by rw [hW1]; exact bV
    replace hz1 := Lib.hid hz1
    replace hc := Lib.hid hc
    clear bR bS bP bV hb0 hz0
    rw [← hc.out]
    rw [← hW1]
    clear hW1 hW0
    gi_wp2
    refine range_enterN (by decide) (gf := 50) (lb := #[.pointer (some ⟨c + 1 + 1, 0, none⟩), .pointer (some ⟨c + 1, 0, none⟩), .pointer (some ⟨c + 1 + 1 + 1, 0, none⟩)]) (by simp [Act.eval]) (enters_of Tryd.func50 (by kernel_rfl) rfl) ?_
    intro fn rc hrc
    obtain ⟨D, hD⟩ : ∃ D, D = W1.heap.size := ⟨_, rfl⟩
    have hDc : D = c + 1 + 1 + 1 + 1 := by rw [hD]; exact hz1.out
    have hBe : Below c W1 ((W1.alloc (.deferred (some []))).alloc (.loop (rc .ready none))) := ((Below.refl _ W1).alloc (by omega) _).alloc (by simp; omega) _
    have hJ0 : DomJ c (D + 1) D (rc .ready none) 0 true [] ((W1.alloc (.deferred (some []))).alloc (.loop (rc .ready none))) := by
      refine ⟨(cR.alloc _).alloc _, ?_, ?_, rfl⟩
      · have := World.alloc_heap_new (W1.alloc (.deferred (some []))) (.loop (rc .ready none))
        rw [World.size_alloc, ← hD] at this
        exact this
      · rw [hD]; exact (Below.heap_alloc _ _ _ (by simp)).trans (World.alloc_heap_new W1 _)
    have eS := (cS.alloc (.deferred (some []))).alloc (.loop (rc .ready none))
    have eP := (cP.alloc (.deferred (some []))).alloc (.loop (rc .ready none))
    have eV := (cV.alloc (.deferred (some []))).alloc (.loop (rc .ready none))
    rw [← hD]
    obtain ⟨We, hWe⟩ : ∃ W, W = (W1.alloc (.deferred (some []))).alloc (.loop (rc .ready none)) := ⟨_, rfl⟩
    rw [← hWe] at hBe hJ0 eS eP eV ⊢
    have hB2 := hB1.trans hBe
    replace hDc := Lib.hid hDc
    clear hWe hBe hB1 cR cS cP cV hD
    refine (splitSeq1_in 4 (by decide) c c (D + 1) D (c + 1 + 1) (c + 1) (c + 1 + 1 + 1) (by have := hDc.out; omega) (by omega) l hl'.out w (DomJ c (D + 1) D (rc .ready none) 0 true) (DomJ c (D + 1) D (rc .done (some .ret)) 5 false) (domJ_host (by have := hDc.out; omega)) ?hY We hB2 eP eS eV hJ0).mono ?_
    case hY =>
      rintro pre p W ⟨hv, hl, hD, hall⟩ hp
      have hy := run_yield (P := Tryd.prog) (args := #[.string ⟨p.toArray⟩]) hl (by rw [hrc]; rfl)
      rw [hrc] at hy
      refine ⟨_, _, _, _, hy, roundIn_of_wpIn trivial ?_⟩
      clear hy
      replace hrc := Lib.hid hrc
      simp only [List.zip, Array.zip, List.foldl]
      gi_wp2
      refine ⟨_, run_beginRound hl (by rw [hrc.out]), ?_⟩
      obtain ⟨busy, hbusy⟩ : ∃ o : Loop, o = { rc .ready none with state := .busy } := ⟨_, rfl⟩
      rw [← hbusy]
      obtain ⟨Wb, hWb⟩ : ∃ X, X = W.putObj (D + 1) (.loop busy) := ⟨_, rfl⟩
      rw [← hWb]
      have hlt1 := (Array.getElem?_eq_some_iff.1 hl).1
      have hcl := hDc.out
      have hg2 : W.grownBy Wb (some (D + 1)) := by rw [hWb]; exact grownBy_putObj' _ _ _
      have hvb : Boxed Wb c 27 (.int .i64 0) := hv.kept hg2 (by intro e; have := Option.some.inj e; omega)
      have hlb : Wb.heap[D + 1]? = some (.loop busy) := by rw [hWb]; exact World.putObj_heap_same hlt1
      have hDb : Wb.heap[D]? = some (.deferred (some [])) := by rw [hWb]; exact (World.putObj_heap_other (by omega)).trans hD
      have hszb : Wb.heap.size = W.heap.size := by rw [hWb]; simp
      have hsame : Hid (∀ k, k < W.heap.size → k ≠ D + 1 → Wb.heap[k]? = W.heap[k]?) := Lib.hid fun k hk hne => by
        rw [hWb]; exact World.putObj_heap_other hne
      have hBb : Below c W Wb := by rw [hWb]; exact (Below.refl c W).grown (grownBy_putObj' _ _ _) (by omega) (fun k e => by have := Option.some.inj e; omega)
      have HL := Lib.hid (isLabel_any p Wb hp)
      obtain ⟨b, hb⟩ : ∃ b, b = labB p := ⟨_, rfl⟩
      rw [← hb] at HL
      have hall2 := Lib.hid (show (pre ++ [p]).all labB = b by rw [List.all_append, hall, hb]; simp)
      clear hWb hg2 hv hb
      gi_wp2
      refine ⟨trivial, ?_⟩
      refine (CallsIn.inRound _ (callsIn_wide.2 HL.out)).mono ?_
      rintro e w3 ⟨rfl, hb3⟩
      have hs3 := hb3.size
      have hv3 : Boxed w3 c 27 (.int .i64 0) := (hb3.block _ hvb.lt).trans hvb
      have hl3 : w3.heap[D + 1]? = some (.loop busy) := (hb3.block _ (by omega)).trans hlb
      have hD3 : w3.heap[D]? = some (.deferred (some [])) := (hb3.block _ (by omega)).trans hDb
      have hB3 : Below c W w3 := hBb.trans (hb3.mono (by have := hvb.lt; omega))
      have hlt3 : D + 1 < w3.heap.size := by omega
      have hsame3 : Hid (∀ k, k < W.heap.size → k ≠ D + 1 → w3.heap[k]? = W.heap[k]?) := Lib.hid fun k hk hne => (hb3.block _ (by omega)).trans (hsame.out k hk hne)
      clear hb3 hvb hlb hDb hBb hsame HL
      cases b
      · have hvS := hv3.set (.int .i64 5)
        have f3 := hv3.frozen
        have c3 := hv3.cell
        gi_wp2
        have hlS : (w3.setCell ⟨c, 0, none⟩ (.int .i64 5)).heap[D + 1]? = some (.loop busy) := (Below.heap_setCell _ _ _ _ (by show D + 1 ≠ c; omega)).trans hl3
        have hDS : (w3.setCell ⟨c, 0, none⟩ (.int .i64 5)).heap[D]? = some (.deferred (some [])) := (Below.heap_setCell _ _ _ _ (by show D ≠ c; omega)).trans hD3
        have hBS := hB3.setCell (p := ⟨c, 0, none⟩) (Nat.le_refl _) (.int .i64 5)
        have hltS := (Array.getElem?_eq_some_iff.1 hlS).1
        refine ⟨_, _, run_endRound (some .ret) hlS, .inr ⟨rfl, ⟨?_, ?_, ?_, ?_⟩, ?_⟩⟩
        · exact hvS.kept (grownBy_putObj' _ _ _) (by intro e; have := Option.some.inj e; omega)
        · rw [hbusy, hrc.out]; exact World.putObj_heap_same hltS
        · exact (World.putObj_heap_other (by omega)).trans hDS
        · exact hall2.out
        · exact hBS.grown (grownBy_putObj' _ _ _) (by omega) (fun k e => by have := Option.some.inj e; omega)
      · gi_wp2
        refine ⟨_, _, run_endRound none hl3, .inl ⟨rfl, ⟨?_, ?_, ?_, ?_⟩, ⟨?_, ?_, ?_⟩⟩⟩
        · exact hv3.kept (grownBy_putObj' _ _ _) (by intro e; have := Option.some.inj e; omega)
        · rw [hbusy, hrc.out]; exact World.putObj_heap_same hlt3
        · exact (World.putObj_heap_other (by omega)).trans hD3
        · exact hall2.out
        · exact hB3.grown (grownBy_putObj' _ _ _) (by omega) (fun k e => by have := Option.some.inj e; omega)
        · rw [World.putObj_size]; omega
        · intro k hk h1 h2 h3
          exact (World.putObj_heap_other (by omega)).trans (hsame3.out k hk h2)
    · rintro e W2 ⟨⟨v0, rfl⟩, hor, hBel⟩
      have hcl := hDc.out
      rcases hor with ⟨hv, hl, hD, hall⟩ | ⟨pre, hpre, hv, hl, hD, hall⟩
      · have hfin := Lib.hid (show domF l = 0 by rw [hV.out, if_pos hall])
        have hel := run_endLoop (P := Tryd.prog) hl (by rw [hrc]; simp)
        obtain ⟨W3, hW3⟩ : ∃ X, X = W2.putObj (D + 1) (.loop { rc .ready none with state := .exhausted }) := ⟨_, rfl⟩
        rw [← hW3] at hel
        refine ⟨none, W3, by rw [hel, hrc], ?_⟩
        have hg := grownBy_putObj' W2 (D + 1) (.loop { rc .ready none with state := .exhausted })
        rw [← hW3] at hg
        have hv3 := hv.kept hg (by intro e; have := Option.some.inj e; omega)
        have hD3 : W3.heap[D]? = some (.deferred (some [])) := by rw [hW3]; exact (World.putObj_heap_other (by omega)).trans hD
        have hB3 : Below c w W3 := hBel.grown hg (by have := hv.lt; omega) (fun k e => by have := Option.some.inj e; omega)
        have f3 := hv3.frozen
        have c3 := hv3.cell
        clear hv hl hD hg hW3 hel hBel hall
        gi_wp2
        have hvS := hv3.set (.int .i64 0)
        have hDS : (W3.setCell ⟨c, 0, none⟩ (.int .i64 0)).heap[D]? = some (.deferred (some [])) := (Below.heap_setCell _ _ _ _ (by show D ≠ c; omega)).trans hD3
        have hBS := hB3.setCell (p := ⟨c, 0, none⟩) (Nat.le_refl _) (.int .i64 0)
        have g2 := (Boxed.kept (hvS) (grownBy_putObj' _ (c + 1 + 1 + 1 + 1) (.deferred none)) (by intro e; have := Option.some.inj e; omega)).cell
        rw [hDc.out] at hDS
        have hBf := hBS.grown (grownBy_putObj' _ (c + 1 + 1 + 1 + 1) (.deferred none)) (by have := (hvS).lt; omega) (fun k e => by have := Option.some.inj e; omega)
        refine ⟨by simp, .inl ⟨_, _, rfl, run_takeDeferred hDS, ?_⟩⟩
        refine ⟨.int .i64 0, ?_, by rw [hfin.out], by rw [← hc.out]; exact hBf⟩
        simp [results, Tryd.results7, go_sem, g2]
      · have hfin := Lib.hid (show domF l = 5 by
          rw [hV.out, if_neg]
          intro h
          have h2 : pre.all labB = true := List.all_eq_true.2 fun x hx => List.all_eq_true.1 h x (hpre.subset hx)
          rw [h2] at hall; cases hall)
        have hel := run_endLoop (P := Tryd.prog) hl (by rw [hrc]; simp)
        obtain ⟨W3, hW3⟩ : ∃ X, X = W2.putObj (D + 1) (.loop { rc .done (some .ret) with state := .exhausted }) := ⟨_, rfl⟩
        rw [← hW3] at hel
        refine ⟨some .ret, W3, by rw [hel, hrc], ?_⟩
        have hg := grownBy_putObj' W2 (D + 1) (.loop { rc .done (some .ret) with state := .exhausted })
        rw [← hW3] at hg
        have hv3 := hv.kept hg (by intro e; have := Option.some.inj e; omega)
        have hD3 : W3.heap[D]? = some (.deferred (some [])) := by rw [hW3]; exact (World.putObj_heap_other (by omega)).trans hD
        have hB3 : Below c w W3 := hBel.grown hg (by have := hv.lt; omega) (fun k e => by have := Option.some.inj e; omega)
        clear hv hl hD hg hW3 hel hBel hall
        show Code.wpIn _ _ _ _ _ _ _
        gi_wp2
        have g2 := (Boxed.kept (hv3) (grownBy_putObj' _ (c + 1 + 1 + 1 + 1) (.deferred none)) (by intro e; have := Option.some.inj e; omega)).cell
        rw [hDc.out] at hD3
        have hBf := hB3.grown (grownBy_putObj' _ (c + 1 + 1 + 1 + 1) (.deferred none)) (by have := (hv3).lt; omega) (fun k e => by have := Option.some.inj e; omega)
        refine ⟨by simp, .inl ⟨_, _, rfl, run_takeDeferred hD3, ?_⟩⟩
        refine ⟨.int .i64 5, ?_, by rw [hfin.out], by rw [← hc.out]; exact hBf⟩
        simp [results, Tryd.results7, go_sem, g2]
end Go.Proofs.YtmfflcemceonhaaDoor
