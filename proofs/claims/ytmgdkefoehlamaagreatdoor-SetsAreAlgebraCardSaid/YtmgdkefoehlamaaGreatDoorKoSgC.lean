/- Sets: setOf of too many. -/
import Derived.Test.YtmgdkefoehlamaaGreatDoorKoSgB
set_option linter.unusedVariables false
set_option linter.unusedSimpArgs false
set_option maxRecDepth 100000
namespace Go.Proofs.YtmgdkefoehlamaaGreatDoor
open Go.RowKit

attribute [local go_sem] Oper.semAt_some

set_option maxHeartbeats 1000000 in
theorem prefixesF_any (sv : Value) (w : World) (A : Option Addr) (m cap : Nat) (hsv : sv = .slice A m cap) :
    Calls Tryz.prog 83 #[.slice A m cap] w fun e w' => e = .returned (.func (.func 152) #[] #[.pointer (some ⟨w.heap.size, 0, none⟩)]) ∧ w' = w.alloc (.cells #[.slice A m cap] 49) := by
  go_enter Tryz.func83, Tryz.ntmps83
  go_wp2_with fail
  go_ret
  exact ⟨rfl, rfl⟩

def OutJ (n0 c l D : Nat) (rc : Loop) (pre : List Pf) (b : Option Nat) (W : World) : Prop :=
  ∃ v, Boxed W c 26 v ∧ OwnE ePf 40 n0 W v pre ∧ v.ownBlock = b ∧ W.heap[l]? = some (.loop rc) ∧ W.heap[D]? = some (.deferred (some [])) ∧ n0 ≤ W.heap.size
theorem own_gb {α : Type} {E : Enc α} {t : TypeId} {B : Nat} {w w' : World} {v : Value} {xs : List α} {row : Option Nat} (h : OwnE E t B w v xs) (hg : w.grownBy w' row) (hr : ∀ r, row = some r → v.ownBlock ≠ some r) : OwnE E t B w' v xs := by
  cases row with
  | none =>
    refine h.gb hg ?_
    cases v.ownBlock with
    | none => exact .inl rfl
    | some k => exact .inr (by intro e; cases e)
  | some r => exact h.gb hg (.inr (hr r rfl))
theorem outJ_host {n0 c l D : Nat} {rc : Loop} (hb : n0 ≤ c ∧ n0 ≤ l ∧ n0 ≤ D) : Host (OutJ n0 c l D rc) n0 c l D := by
  refine ⟨?_, ?_, hb⟩
  · rintro pre b W W' row ⟨v, h1, h2, h3, h4, h5, h6⟩ hg hr
    have hne : ∀ k, (∀ r, row = some r → r ≠ k) → some k ≠ row := fun k h e => h k e.symm rfl
    refine ⟨v, h1.kept hg (hne c fun r e => (hr r e).1), own_gb h2 hg (fun r e => by rw [h3]; exact (hr r e).2.2.2), h3, (hg.block l (Array.getElem?_eq_some_iff.1 h4).1 (hne l fun r e => (hr r e).2.1)).trans h4, (hg.block D (Array.getElem?_eq_some_iff.1 h5).1 (hne D fun r e => (hr r e).2.2.1)).trans h5, Nat.le_trans h6 hg.size⟩
  · rintro pre b W ⟨v, h1, h2, h3, h4, h5, h6⟩
    exact ⟨h1.lt, (Array.getElem?_eq_some_iff.1 h4).1, (Array.getElem?_eq_some_iff.1 h5).1, fun k e => h2.lt k (by rw [h3]; exact e)⟩

theorem outJ_start {n0 c : Nat} {rc : Loop} {W : World} (hb : Boxed W c 26 (.slice none 0 0)) (hn : n0 ≤ W.heap.size) : OutJ n0 c (W.heap.size + 1) W.heap.size rc [] none ((W.alloc (.deferred (some []))).alloc (.loop rc)) := by
  refine ⟨.slice none 0 0, (hb.alloc _).alloc _, OwnE.nil _ _, rfl, ?_, ?_, by simp; omega⟩
  · have := World.alloc_heap_new (W.alloc (.deferred (some []))) (.loop rc)
    rwa [World.size_alloc] at this
  · exact (Below.heap_alloc _ _ _ (by simp)).trans (World.alloc_heap_new W _)
section
variable {α : Type} {E : Enc α} {t : TypeId}
theorem wpListIn_app {st : TypeId} {z : Value} {bytes : Nat} (T : Ty E t st z bytes) {F : Fence} {n : Nat} {w : World} {ops : Array Oper} {rest : List Oper} {o : Oper} {a : Act} {Q : Exit → Act → World → Prop} (hgd : o.guard = none) (s x : Operand)
    (ho : o.op = .call { callee := .builtin .append, args := #[s, x], argTypes := #[st, st] })
    (B : Nat) (v : Value) (xs ys : List α) (hs : a.eval s = v) (hown : OwnE E t B w v xs)
    (ad : Addr) (m c : Nat) (hx : a.eval x = .slice (some ad) m c) (hm : m = ys.length) (hnews : ∀ j u, (E.cells ys)[j]? = some u → w.cell? (ad.add j) = some u) (hn : xs.length + ys.length ≤ 1000000) (hbase : B ≤ w.heap.size)
    (h : ∀ v' w', OwnE E t B w' v' (xs ++ ys) → w.grownBy w' v.ownBlock → (v'.ownBlock = v.ownBlock ∨ v'.ownBlock = some w.heap.size) → wpListIn F n Tryz.prog ops Q rest (a.put o.dst v') w') : wpListIn F n Tryz.prog ops Q (o :: rest) a w := by
  obtain ⟨v', w', hr, h2, h3, h4⟩ := run_app T o.type B v xs ys hown ad m c hm hnews hn hbase
  refine wpListIn_plain hgd fun K hK => ?_
  unfold Oper.wpIn
  refine ⟨?_, ?_⟩
  · simp [Oper.about, ho, resolve, Target.leads, Sem.run_pure]
  · rw [Oper.semAt_plain F _ _ (by rw [ho]; intro c hc; cases hc)]
    simp [execOp, ho, resolve, invoke, builtin, hs, hx, hr, Result.andThen]
    exact hK _ _ (h v' w' h2 h3 h4)
end
theorem range_enter {P : Program} {n gf : Nat} {lb : Array Value} {g : Operand} {ps : Array Tmp} {assign body : Code} {Q : Exit → Act → World → Prop} {a : Act} {w : World} (h1 : 1 ≤ n) (hg : a.eval g = .func (.func gf) #[] lb) (eg : ∀ args w, (callFunc gf args).run P w = .ok (.enter gf args) w)
    (h : ∀ (fn : FuncId) (rc : LoopState → Option Code → Loop), rc = (fun st pe => { state := st, pending := pe, fn, tmps := a.tmps, params := ps, assign, body, defers := w.heap.size }) →
      CallsIn Fence.wide (n - 1) P gf (#[.func (.yield (w.heap.size + 1)) #[] #[]] ++ lb) ((w.alloc (.deferred (some []))).alloc (.loop (rc .ready none))) (rangePost Fence.wide n P (w.heap.size + 1) Q { a with defers := { target := .collected w.heap.size, args := #[] } :: a.defers })) :
    (Code.rangeFunc g ps assign body).wpIn Fence.wide n P Q a w := by
  refine wpIn_rangeFunc ?_
  intro fn _
  obtain ⟨rc, hrc⟩ : ∃ rc : LoopState → Option Code → Loop, rc = fun st pe => { state := st, pending := pe, fn, tmps := a.tmps, params := ps, assign, body, defers := w.heap.size } := ⟨_, rfl⟩
  have hc := h fn rc hrc
  obtain ⟨W1, hW1⟩ : ∃ W1, W1 = (w.alloc (.deferred (some []))).alloc (.loop (rc .ready none)) := ⟨_, rfl⟩
  rw [← hW1] at hc
  refine ⟨w.heap.size + 1, [{ target := .collected w.heap.size, args := #[] }], W1, { target := .fn (.func gf) lb, args := #[.func (.yield (w.heap.size + 1)) #[] #[]] }, W1, gf, #[.func (.yield (w.heap.size + 1)) #[] #[]] ++ lb, W1, ?_, ?_, ?_, ?_, fun _ => h1, ?_⟩
  · rw [hW1, hrc]; exact run_enterLoop_outer _ _ _ _ _
  · simp only [resolve, hg]
    simp [go_sem]
  · exact fun _ _ => trivial
  · simp [invoke, go_sem, eg]
  · exact hc

set_option maxHeartbeats 4000000 in
theorem setOf_any (A : Option Addr) (m cap : Nat) (xs : List (Ad × Ad)) (w : World) (hS : SlE eRg w A m cap xs) (hm : m ≤ 100000) (hR : ∀ x ∈ xs, RgR x) (hT : Tz w) (hN : (pfsOf (xs.map rowA)).length ≤ 1000) :
    Calls Tryz.prog 51 #[.slice A m cap] w fun e w' => (∃ v, e = .returned (.tuple #[v, .int .i64 0]) ∧ OwnE ePf 40 w.heap.size w' v (pfsOf (xs.map rowA))) ∧ Below w.heap.size w w' := by
  refine (callsIn_wide (n := 5)).1 ?_
  refine callsIn_of_wp_marks Tryz.func51 rfl trivial ?_ rfl
  simp only [Tryz.ntmps51, List.size_toArray, List.length_cons, List.length_nil, Nat.reduceAdd, Nat.reduceSub, Array.replicate_succ, Array.replicate_zero, List.push_toArray, List.append_toArray, List.nil_append, List.cons_append]
  gi_wp2
  refine ⟨trivial, ?_⟩
  refine (callsIn_wide.2 (prefixesF_any _ _ A m cap rfl)).mono ?_
  rintro e w1 ⟨rfl, rfl⟩
  have hB2 : Below w.heap.size w ((w.alloc (.cells #[.slice none 0 0] 26)).alloc (.cells #[.int .i64 0] 28)) := below_two _ _ _
  obtain ⟨W0, hW0⟩ : ∃ W, W = (w.alloc (.cells #[.slice none 0 0] 26)).alloc (.cells #[.int .i64 0] 28) := ⟨_, rfl⟩
  have r2 : Boxed W0 w.heap.size 26 (.slice none 0 0) := by rw [hW0]; exact (Boxed.new w _ _).alloc _
  have r3 : Boxed W0 (w.heap.size + 1) 28 (.int .i64 0) := by
    rw [hW0]
    have := Boxed.new (w.alloc (.cells #[.slice none 0 0] 26)) 28 (.int .i64 0)
    rwa [World.size_alloc] at this
  have hz : W0.heap.size = w.heap.size + 1 + 1 := by rw [hW0]; simp
  rw [← hW0] at hB2
  have hS0 := hS.below hB2
  have hT0 := hT.below hB2
  have bO := Boxed.new W0 26 (.slice none 0 0)
  have bN := Boxed.new (W0.alloc (.cells #[.slice none 0 0] 26)) 49 (.slice A m cap)
  rw [World.size_alloc, hz] at bN
  rw [hz] at bO
  obtain ⟨W1, hW1⟩ : ∃ W, W = (W0.alloc (.cells #[.slice none 0 0] 26)).alloc (.cells #[.slice A m cap] 49) := ⟨_, rfl⟩
  have hB1 : Below W0.heap.size W0 W1 := by rw [hW1]; exact below_two _ _ _
  have bO1 : Boxed W1 (w.heap.size + 1 + 1) 26 (.slice none 0 0) := by rw [hW1]; exact bO.alloc _
  rw [← hW1] at bN
  have hz1 : W1.heap.size = w.heap.size + 1 + 1 + 1 + 1 := by rw [hW1]; simp [hz]
  have hzz := hz
  have hzz1 := hz1
  rw [hz] at hB1
  replace hz := Lib.hid hz
  replace hz1 := Lib.hid hz1
  replace hN := Lib.hid hN
  clear bO hS hT hzz hzz1
  gi_wp2
  rw [← hW0, ← hW1]
  clear hW0 hW1
  refine range_enter (by decide) (gf := 152) (lb := #[.pointer (some ⟨w.heap.size + 1 + 1 + 1, 0, none⟩)]) (by simp [Act.eval]) (enters_of Tryz.func152 (by kernel_rfl) rfl) ?_
  intro fn rc hrc
  refine (prefixes1_in 4 (by decide) (w.heap.size + 1 + 1) (w.heap.size + 1 + 1) (W1.heap.size + 1) W1.heap.size (w.heap.size + 1 + 1 + 1) A m cap xs hm hR W0 hz.out hS0 hT0 (OutJ (w.heap.size + 1 + 1) (w.heap.size + 1 + 1) (W1.heap.size + 1) W1.heap.size (rc .ready none)) (outJ_host ⟨Nat.le_refl _, by have := hz1.out; omega, by have := hz1.out; omega⟩) ?hY _ none (hB1.trans ?_) ?_ (outJ_start bO1 (by have := hz1.out; omega))).mono ?_
  case hY =>
    rintro pre p b W ⟨v, hv, hown, hb, hl, hD, hzW⟩ hlt
    have hy := run_yield (P := Tryz.prog) (args := #[pfA p]) hl (by rw [hrc]; rfl)
    rw [hrc] at hy
    refine ⟨_, _, _, _, hy, roundIn_of_wpIn trivial ?_⟩
    clear hy
    have S1 := stT_new rowPf (te := 40) W W.heap.size rfl [.bool false, .int .u64 0, .int .u64 0, .int .i64 0] (pfC p) rfl rfl (pfC_one p)
    have hl1 : (W.alloc (.cells (pfC p).toArray 40)).heap[W1.heap.size + 1]? = some (.loop (rc .ready none)) := (Below.heap_alloc _ _ _ (Array.getElem?_eq_some_iff.1 hl).1).trans hl
    replace hrc := Lib.hid hrc
    simp only [List.zip, Array.zip, List.foldl]
    gi_wp2
    refine ⟨_, run_beginRound hl1 (by rw [hrc.out]), ?_⟩
    obtain ⟨busy, hbusy⟩ : ∃ o : Loop, o = { rc .ready none with state := .busy } := ⟨_, rfl⟩
    rw [← hbusy]
    obtain ⟨Wb, hWb⟩ : ∃ X, X = (W.alloc (.cells (pfC p).toArray 40)).putObj (W1.heap.size + 1) (.loop busy) := ⟨_, rfl⟩
    rw [← hWb]
    have hlt1 := (Array.getElem?_eq_some_iff.1 hl1).1
    have hg1 : W.grownBy (W.alloc (.cells (pfC p).toArray 40)) none := World.grownBy_alloc _ _ _
    have hg2 : (W.alloc (.cells (pfC p).toArray 40)).grownBy Wb (some (W1.heap.size + 1)) := by rw [hWb]; exact grownBy_putObj' _ _ _
    have hcl := hz1.out
    have hvb : Boxed Wb (w.heap.size + 1 + 1) 26 v := (hv.alloc _).kept hg2 (by intro e; have := Option.some.inj e; omega)
    have hownb : OwnE ePf 40 (w.heap.size + 1 + 1) Wb v pre := by rw [hWb]; exact ownsRow_putObj (hown.alloc' _) _ hl1 rfl
    have hlb : Wb.heap[W1.heap.size + 1]? = some (.loop busy) := by rw [hWb]; exact World.putObj_heap_same hlt1
    have hDb : Wb.heap[W1.heap.size]? = some (.deferred (some [])) := by
      rw [hWb]
      exact (World.putObj_heap_other (by omega)).trans ((Below.heap_alloc _ _ _ (Array.getElem?_eq_some_iff.1 hD).1).trans hD)
    have hpb : Blk Wb W.heap.size (pfC p) 40 := by
      rw [hWb]
      exact (World.putObj_heap_other (by have := (Array.getElem?_eq_some_iff.1 hl).1; omega)).trans (Blk.new W _ _)
    have hszb : Wb.heap.size = W.heap.size + 1 := by rw [hWb]; simp
    have hsame : Hid (∀ k, k < W.heap.size → k ≠ W1.heap.size + 1 → Wb.heap[k]? = W.heap[k]?) := Lib.hid fun k hk hne => by
      rw [hWb]; exact (World.putObj_heap_other hne).trans (Below.heap_alloc _ _ _ hk)
    have hBb : Below (w.heap.size + 1 + 1) W Wb := by
      rw [hWb]
      exact ((Below.refl _ W).alloc hzW _).grown (grownBy_putObj' _ _ _) (by simp; omega) (fun k e => by have := Option.some.inj e; omega)
    obtain ⟨A', cp, rfl, _⟩ := hown.sl
    have hn1 : ((pre.length : Int) == 1000) = false := by rw [beq_eq_false_iff_ne]; have := hN.out; omega
    replace hb := Lib.hid hb
    have hc := hvb.cell
    have kp := hpb.ld rowPf rfl
    clear hWb hg1 hg2 hv hown S1
    gi_wp2_with (gi_at_builtin; refine wpListIn_app tyePf rfl _ _ rfl (w.heap.size + 1 + 1) _ pre [p] rfl (hownb.alloc' _) ⟨_, 0, none⟩ 1 1 rfl rfl ?c1 ?c2 ?c3 ?_)
    case c1 => intro j u hj; first | exact hj | (rw [Enc.cells_single] at hj; exact hj)
    case c2 => have := hN.out; omega
    case c3 => omega
    intro v' w3 hown3 hg3 hd3
    obtain ⟨hv1, hv2, hr2, hk2, hb2⟩ := hvb.appended (by decide) hownb (by omega) (Nat.le_refl _) hown3 hg3
    obtain ⟨g', cp', hv', _⟩ := hown3.form (by simp)
    subst hv'
    have hc1 := hv1.cell
    have hf1 := hv1.frozen
    gi_wp2
    have hl3 := hk2.same _ _ hlb rfl
    have hD3 := hk2.same _ _ hDb rfl
    have hlt3 := (Array.getElem?_eq_some_iff.1 hl3).1
    have hfin : ({ busy with state := .ready, pending := none } : Loop) = rc .ready none := by rw [hbusy, hrc.out]
    have hg5 : (w3.setCell ⟨w.heap.size + 1 + 1, 0, none⟩ (.slice (some ⟨g', 0, none⟩) (pre.length + 1) cp')).grownBy ((w3.setCell ⟨w.heap.size + 1 + 1, 0, none⟩ (.slice (some ⟨g', 0, none⟩) (pre.length + 1) cp')).putObj (W1.heap.size + 1) (.loop (rc .ready none))) (some (W1.heap.size + 1)) := grownBy_putObj' _ _ _
    have hpl : (pre ++ [p]).length = pre.length + 1 := by simp
    rw [hpl] at hv2 hr2 hl3 hD3 hlt3 hb2
    refine ⟨_, _, run_endRound none hl3, rfl, (Value.slice (some ⟨g', 0, none⟩) (pre.length + 1) cp').ownBlock, ⟨.slice (some ⟨g', 0, none⟩) (pre.length + 1) cp', ?_, ?_, rfl, ?_, ?_, ?_⟩, ?_⟩
    · show Boxed (World.putObj _ _ (.loop { busy with state := .ready, pending := none })) _ _ _
      rw [hfin]
      exact hv2.kept hg5 (by intro e; have := Option.some.inj e; omega)
    · show OwnE _ _ _ (World.putObj _ _ (.loop { busy with state := .ready, pending := none })) _ _
      have := ownsRow_putObj hr2 (.loop { busy with state := .ready, pending := none }) hl3 rfl
      unfold OwnE
      rw [hpl]
      exact this
    · show (World.putObj _ _ (.loop { busy with state := .ready, pending := none })).heap[_]? = _
      rw [hfin]
      exact World.putObj_heap_same hlt3
    · exact (World.putObj_heap_other (by omega)).trans hD3
    · show w.heap.size + 1 + 1 ≤ (World.putObj _ _ _).heap.size
      rw [World.putObj_size]
      have := hb2.size
      omega
    · show Keep _ _ _ _ _ _ _ (World.putObj _ _ (.loop { busy with state := .ready, pending := none }))
      rw [hfin]
      have hs3 := hb2.size
      refine ⟨?_, ?_, ?_, ?_⟩
      · exact (hBb.trans hb2).grown hg5 (by omega) (fun k e => by have := Option.some.inj e; omega)
      · rw [World.putObj_size]; omega
      · rw [← hb.out]
        rcases hd3 with e | e
        · left
          rw [← e, hpl]
        · right
          rw [hpl] at e
          exact ⟨_, by first | omega | (simp; omega), e⟩
      · intro k hk hA
        obtain ⟨a1, a2, a3, a4⟩ := hA
        rw [World.putObj_heap_other a2, Below.heap_setCell _ _ _ _ (by show k ≠ _; omega)]
        rw [hg3.block k (by simp; omega) (by rw [hb.out]; exact fun e => a4 e.symm), Below.heap_alloc _ _ _ (by omega), hsame.out k hk a2]
  · exact ((Below.refl _ W1).alloc (by have := hz1.out; omega) _).alloc (by have := hz1.out; simp; omega) _
  · exact ((bN.alloc _).alloc _).cell
  · rintro e W2 ⟨⟨v0, rfl⟩, b', ⟨v', hv, hown, hb, hl, hD, hzW⟩, hBel⟩
    have hel := run_endLoop (P := Tryz.prog) hl (by rw [hrc]; simp)
    obtain ⟨W3, hW3⟩ : ∃ X, X = W2.putObj (W1.heap.size + 1) (.loop { rc .ready none with state := .exhausted }) := ⟨_, rfl⟩
    rw [← hW3] at hel
    refine ⟨none, W3, by rw [hel, hrc], ?_⟩
    have hcl := hz1.out
    have hcz := hz.out
    have hg := grownBy_putObj' W2 (W1.heap.size + 1) (.loop { rc .ready none with state := .exhausted })
    rw [← hW3] at hg
    have hv3 := hv.kept hg (by intro e; have := Option.some.inj e; omega)
    have hown3 : OwnE ePf 40 (w.heap.size + 1 + 1) W3 v' (pfsOf (xs.map rowA)) := by rw [hW3]; exact ownsRow_putObj hown _ hl rfl
    have hD3 : W3.heap[W1.heap.size]? = some (.deferred (some [])) := by rw [hW3]; exact (World.putObj_heap_other (by omega)).trans hD
    have hB3 : Below (w.heap.size + 1 + 1) W0 W3 := hBel.grown hg (by omega) (fun k e => by have := Option.some.inj e; omega)
    have r2' : Boxed W3 w.heap.size 26 (.slice none 0 0) := (hB3.block _ (by omega)).trans r2
    have r3' : Boxed W3 (w.heap.size + 1) 28 (.int .i64 0) := (hB3.block _ (by omega)).trans r3
    have hsz3 : w.heap.size + 1 + 1 ≤ W3.heap.size := by have := hB3.size; omega
    obtain ⟨A', cp, rfl, hsl⟩ := hown3.sl
    have hc := hv3.cell
    have q2 := r2'.cell
    have f2 := r2'.frozen
    have q3 := r3'.cell
    have f3 := r3'.frozen
    clear hv hown hl hD hBel hg r2 r3 hW3 hel
    gi_wp2
    obtain ⟨L3, hL3⟩ : ∃ k, k = (pfsOf (xs.map rowA)).length := ⟨_, rfl⟩
    rw [← hL3]
    obtain ⟨Wf, hWf⟩ : ∃ X, X = (W3.setCell ⟨w.heap.size, 0, none⟩ (.slice A' L3 cp)).setCell ⟨w.heap.size + 1, 0, none⟩ (.int .i64 0) := ⟨_, rfl⟩
    rw [← hWf]
    have hKf : Wf.heap[w.heap.size + 1 + 1 + 1 + 1]? = some (.deferred (some [])) := by
      rw [hWf, Below.heap_setCell _ _ _ _ (show w.heap.size + 1 + 1 + 1 + 1 ≠ w.heap.size + 1 by omega), Below.heap_setCell _ _ _ _ (show w.heap.size + 1 + 1 + 1 + 1 ≠ w.heap.size by omega), ← hcl]; exact hD3
    refine ⟨by simp, .inl ⟨_, _, rfl, run_takeDeferred hKf, ?_⟩⟩
    have b2 : Boxed (Wf.putObj (w.heap.size + 1 + 1 + 1 + 1) (.deferred none)) w.heap.size 26 (.slice A' L3 cp) := by
      refine Boxed.kept ?_ (grownBy_putObj' _ _ _) (by intro e; have := Option.some.inj e; omega)
      rw [hWf]
      exact (r2'.set _).other (by omega) _
    have b3 : Boxed (Wf.putObj (w.heap.size + 1 + 1 + 1 + 1) (.deferred none)) (w.heap.size + 1) 28 (.int .i64 0) := by
      refine Boxed.kept ?_ (grownBy_putObj' _ _ _) (by intro e; have := Option.some.inj e; omega)
      rw [hWf]
      exact (r3'.other (by omega) _).set _
    have g2 := b2.cell
    have g3 := b3.cell
    have hBf : Below w.heap.size w (Wf.putObj (w.heap.size + 1 + 1 + 1 + 1) (.deferred none)) := by
      refine Below.grown ?_ (grownBy_putObj' _ _ _) (by rw [hWf]; simp [World.setCell]; omega) (fun k e => by have := Option.some.inj e; omega)
      rw [hWf]
      exact ((hB2.trans (hB3.mono (by omega))).setCell (p := ⟨w.heap.size, 0, none⟩) (Nat.le_refl _) _).setCell (p := ⟨w.heap.size + 1, 0, none⟩) (Nat.le_succ _) _
    have hof : OwnE ePf 40 w.heap.size (Wf.putObj (w.heap.size + 1 + 1 + 1 + 1) (.deferred none)) (.slice A' L3 cp) (pfsOf (xs.map rowA)) := by
      rw [← hL3] at hown3
      have o1 := own_gb hown3 (grownBy_setCell' W3 w.heap.size (.slice A' L3 cp)) (fun r e he => by have := Option.some.inj e; have := hown3.lt r he; omega)
      have o2 := own_gb o1 (grownBy_setCell' _ (w.heap.size + 1) (.int .i64 0)) (fun r e he => by have := Option.some.inj e; have := o1.lt r he; omega)
      rw [← hWf] at o2
      exact OwnE.mono (ownsRow_putObj o2 _ hKf rfl) (by omega)
    refine ⟨.tuple #[.slice A' L3 cp, .int .i64 0], ?_, ⟨_, rfl, hof⟩, hBf⟩
    simp [results, Tryz.results51, go_sem, g2, g3]
end Go.Proofs.YtmgdkefoehlamaaGreatDoor
namespace Go.Proofs.YtmgdkefoehlamaaGreatDoor
open Go.RowKit

theorem orE_blk (l : List Int) (p cap : Nat) (w : World) (t : TypeId) (h : Blk w p (l.map (Value.int .i64)) t) (hl : l.length ≤ 100) :
    Calls Tryz.prog 45 #[.slice (some ⟨p, 0, none⟩) l.length cap] w fun e w' => e = .returned (.int .i64 (firstZ l)) ∧ w = w' :=
  or_any l p cap w (fun i hi => h.cell (by simp [List.getElem?_eq_getElem hi])) hl
theorem firstZ_both (a b : Int) : firstZ [a, b] = 0 ↔ a = 0 ∧ b = 0 := by
  unfold firstZ firstZ firstZ
  by_cases h : a = 0
  · rw [if_pos h]
    by_cases h2 : b = 0
    · rw [if_pos h2]; exact ⟨fun _ => ⟨h, h2⟩, fun _ => rfl⟩
    · rw [if_neg h2]; exact ⟨fun e => absurd e h2, fun e => e.2⟩
  · rw [if_neg h]; exact ⟨fun e => absurd e h, fun e => e.1⟩
def GivesS (E : Int) (P : List Pf → Prop) (w : World) (e : Ending) (w' : World) : Prop :=
  ∃ v ps, e = .returned (.tuple #[v, .int .i64 E]) ∧ OwnE ePf 40 w.heap.size w' v ps ∧ (E = 0 → P ps) ∧ (E ≠ 0 → ps = []) ∧ Below w.heap.size w w'


theorem setF_ok {ps : List Pf} (hU : ∀ p ∈ ps, p.U) (h : setF ps = 0) : ∀ p ∈ ps, p.R := by
  have key : ∀ (l : List Pf) (o : Option Pf), scanF o l = 0 → ∀ p ∈ l, pfE p = 0 := by
    intro l
    induction l with
    | nil => intro o _ p hp; cases hp
    | cons q r ih =>
      intro o h p hp
      unfold scanF at h
      by_cases e : pfE q = 0
      · rw [if_neg (fun f => f e)] at h
        rcases List.mem_cons.1 hp with rfl | hp
        · exact e
        · cases o with
          | none => simp only [Bool.false_eq_true, if_false] at h; exact ih _ h p hp
          | some z =>
            by_cases c : q.1.n ≤ z.1.n
            · simp [c] at h
            · simp only [c, decide_false, Bool.false_eq_true, if_false] at h; exact ih _ h p hp
      · rw [if_pos e] at h; exact absurd h e
  unfold setF at h
  by_cases e : scanF none ps = 0
  · exact fun p hp => (pfE_iff (hU p hp).1).1 (key ps none e p hp)
  · rw [if_pos e] at h; exact absurd h e


attribute [local go_sem] Oper.semAt_some

structure StopJ (r l D : Nat) (rc : Loop) (W : World) : Prop where
  a : Boxed W r 26 (.slice none 0 0)
  b : Boxed W (r + 1) 28 (.int .i64 2)
  l : W.heap[l]? = some (.loop rc)
  d : W.heap[D]? = some (.deferred (some []))

set_option maxHeartbeats 4000000 in
theorem setOf_large (A : Option Addr) (m cap : Nat) (xs : List (Ad × Ad)) (w : World) (hS : SlE eRg w A m cap xs) (hm : m ≤ 100000) (hR : ∀ x ∈ xs, RgR x) (hT : Tz w) (hN : 1000 < (pfsOf (xs.map rowA)).length) :
    Calls Tryz.prog 51 #[.slice A m cap] w fun e w' => e = .returned (.tuple #[.slice none 0 0, .int .i64 2]) ∧ Below w.heap.size w w' := by
  refine (callsIn_wide (n := 5)).1 ?_
  refine callsIn_of_wp_marks Tryz.func51 rfl trivial ?_ rfl
  simp only [Tryz.ntmps51, List.size_toArray, List.length_cons, List.length_nil, Nat.reduceAdd, Nat.reduceSub, Array.replicate_succ, Array.replicate_zero, List.push_toArray, List.append_toArray, List.nil_append, List.cons_append]
  gi_wp2
  refine ⟨trivial, ?_⟩
  refine (callsIn_wide.2 (prefixesF_any _ _ A m cap rfl)).mono ?_
  rintro e w1 ⟨rfl, rfl⟩
  have hB2 : Below w.heap.size w ((w.alloc (.cells #[.slice none 0 0] 26)).alloc (.cells #[.int .i64 0] 28)) := below_two _ _ _
  obtain ⟨W0, hW0⟩ : ∃ W, W = (w.alloc (.cells #[.slice none 0 0] 26)).alloc (.cells #[.int .i64 0] 28) := ⟨_, rfl⟩
  have r2 : Boxed W0 w.heap.size 26 (.slice none 0 0) := by rw [hW0]; exact (Boxed.new w _ _).alloc _
  have r3 : Boxed W0 (w.heap.size + 1) 28 (.int .i64 0) := by
    rw [hW0]
    have := Boxed.new (w.alloc (.cells #[.slice none 0 0] 26)) 28 (.int .i64 0)
    rwa [World.size_alloc] at this
  have hz : W0.heap.size = w.heap.size + 1 + 1 := by rw [hW0]; simp
  rw [← hW0] at hB2
  have hS0 := hS.below hB2
  have hT0 := hT.below hB2
  have bO := Boxed.new W0 26 (.slice none 0 0)
  have bN := Boxed.new (W0.alloc (.cells #[.slice none 0 0] 26)) 49 (.slice A m cap)
  rw [World.size_alloc, hz] at bN
  rw [hz] at bO
  obtain ⟨W1, hW1⟩ : ∃ W, W = (W0.alloc (.cells #[.slice none 0 0] 26)).alloc (.cells #[.slice A m cap] 49) := ⟨_, rfl⟩
  have hB1 : Below W0.heap.size W0 W1 := by rw [hW1]; exact below_two _ _ _
  have bO1 : Boxed W1 (w.heap.size + 1 + 1) 26 (.slice none 0 0) := by rw [hW1]; exact bO.alloc _
  rw [← hW1] at bN
  have hz1 : W1.heap.size = w.heap.size + 1 + 1 + 1 + 1 := by rw [hW1]; simp [hz]
  have hzz := hz
  have hzz1 := hz1
  rw [hz] at hB1
  replace hz := Lib.hid hz
  replace hz1 := Lib.hid hz1
  replace hN := Lib.hid hN
  clear bO hS hT hzz hzz1
  gi_wp2
  rw [← hW0, ← hW1]
  clear hW0 hW1
  refine range_enter (by decide) (gf := 152) (lb := #[.pointer (some ⟨w.heap.size + 1 + 1 + 1, 0, none⟩)]) (by simp [Act.eval]) (enters_of Tryz.func152 (by kernel_rfl) rfl) ?_
  intro fn rc hrc
  refine (prefixes1S_in 4 (by decide) (w.heap.size + 1 + 1) (w.heap.size + 1 + 1) (W1.heap.size + 1) W1.heap.size (w.heap.size + 1 + 1 + 1) A m cap xs hm hR W0 hz.out hS0 hT0 (OutJ (w.heap.size + 1 + 1) (w.heap.size + 1 + 1) (W1.heap.size + 1) W1.heap.size (rc .ready none)) (outJ_host ⟨Nat.le_refl _, by have := hz1.out; omega, by have := hz1.out; omega⟩) 1000 hN.out (StopJ w.heap.size (W1.heap.size + 1) W1.heap.size (rc .done (some .ret))) w.heap.size (by omega) ?hZ ?hY _ none (hB1.trans ?_) ?_ (outJ_start bO1 (by have := hz1.out; omega))).mono ?_
  case hZ =>
    rintro pre p b W ⟨v, hv, hown, hb, hl, hD, hzW⟩ hBW hlt
    have hy := run_yield (P := Tryz.prog) (args := #[pfA p]) hl (by rw [hrc]; rfl)
    rw [hrc] at hy
    refine ⟨_, _, _, _, hy, roundIn_of_wpIn trivial ?_⟩
    clear hy
    have S1 := stT_new rowPf (te := 40) W W.heap.size rfl [.bool false, .int .u64 0, .int .u64 0, .int .i64 0] (pfC p) rfl rfl (pfC_one p)
    have hl1 : (W.alloc (.cells (pfC p).toArray 40)).heap[W1.heap.size + 1]? = some (.loop (rc .ready none)) := (Below.heap_alloc _ _ _ (Array.getElem?_eq_some_iff.1 hl).1).trans hl
    replace hrc := Lib.hid hrc
    simp only [List.zip, Array.zip, List.foldl]
    gi_wp2
    refine ⟨_, run_beginRound hl1 (by rw [hrc.out]), ?_⟩
    obtain ⟨busy, hbusy⟩ : ∃ o : Loop, o = { rc .ready none with state := .busy } := ⟨_, rfl⟩
    rw [← hbusy]
    obtain ⟨Wb, hWb⟩ : ∃ X, X = (W.alloc (.cells (pfC p).toArray 40)).putObj (W1.heap.size + 1) (.loop busy) := ⟨_, rfl⟩
    rw [← hWb]
    have hlt1 := (Array.getElem?_eq_some_iff.1 hl1).1
    have hg1 : W.grownBy (W.alloc (.cells (pfC p).toArray 40)) none := World.grownBy_alloc _ _ _
    have hg2 : (W.alloc (.cells (pfC p).toArray 40)).grownBy Wb (some (W1.heap.size + 1)) := by rw [hWb]; exact grownBy_putObj' _ _ _
    have hcl := hz1.out
    have hvb : Boxed Wb (w.heap.size + 1 + 1) 26 v := (hv.alloc _).kept hg2 (by intro e; have := Option.some.inj e; omega)
    have hownb : OwnE ePf 40 (w.heap.size + 1 + 1) Wb v pre := by rw [hWb]; exact ownsRow_putObj (hown.alloc' _) _ hl1 rfl
    have hlb : Wb.heap[W1.heap.size + 1]? = some (.loop busy) := by rw [hWb]; exact World.putObj_heap_same hlt1
    have hDb : Wb.heap[W1.heap.size]? = some (.deferred (some [])) := by
      rw [hWb]
      exact (World.putObj_heap_other (by omega)).trans ((Below.heap_alloc _ _ _ (Array.getElem?_eq_some_iff.1 hD).1).trans hD)
    have hpb : Blk Wb W.heap.size (pfC p) 40 := by
      rw [hWb]
      exact (World.putObj_heap_other (by have := (Array.getElem?_eq_some_iff.1 hl).1; omega)).trans (Blk.new W _ _)
    have hszb : Wb.heap.size = W.heap.size + 1 := by rw [hWb]; simp
    have hsame : Hid (∀ k, k < W.heap.size → k ≠ W1.heap.size + 1 → Wb.heap[k]? = W.heap[k]?) := Lib.hid fun k hk hne => by
      rw [hWb]; exact (World.putObj_heap_other hne).trans (Below.heap_alloc _ _ _ hk)
    have hBb : Below (w.heap.size + 1 + 1) W Wb := by
      rw [hWb]
      exact ((Below.refl _ W).alloc hzW _).grown (grownBy_putObj' _ _ _) (by simp; omega) (fun k e => by have := Option.some.inj e; omega)
    obtain ⟨A', cp, rfl, _⟩ := hown.sl
    have hn1 : ((pre.length : Int) == 1000) = true := by rw [hlt]; rfl
    have q2 : Boxed Wb w.heap.size 26 (.slice none 0 0) := (hsame.out _ (by omega) (by omega)).trans ((hBW.block _ (by omega)).trans r2)
    have q3 : Boxed Wb (w.heap.size + 1) 28 (.int .i64 0) := (hsame.out _ (by omega) (by omega)).trans ((hBW.block _ (by omega)).trans r3)
    have f2 := q2.frozen
    have f3 := (q3.other (show w.heap.size + 1 ≠ w.heap.size by omega) (.slice none 0 0)).frozen
    have k2 := q2.cell
    have k3 := (q3.other (show w.heap.size + 1 ≠ w.heap.size by omega) (.slice none 0 0)).cell
    replace hb := Lib.hid hb
    have hc := hvb.cell
    clear hWb hg1 hg2 hv hown S1
    clear hcl
    gi_wp2
    have hcl := hz1.out
    obtain ⟨WS, hWS⟩ : ∃ X, X = (Wb.setCell ⟨w.heap.size, 0, none⟩ (.slice none 0 0)).setCell ⟨w.heap.size + 1, 0, none⟩ (.int .i64 2) := ⟨_, rfl⟩
    rw [← hWS]
    have s2 : Boxed WS w.heap.size 26 (.slice none 0 0) := by rw [hWS]; exact (q2.set _).other (by omega) _
    have s3 : Boxed WS (w.heap.size + 1) 28 (.int .i64 2) := by rw [hWS]; exact (q3.other (by omega) _).set _
    have sl : WS.heap[W1.heap.size + 1]? = some (.loop busy) := by
      rw [hWS, Below.heap_setCell _ _ _ _ (by show W1.heap.size + 1 ≠ w.heap.size + 1; omega), Below.heap_setCell _ _ _ _ (by show W1.heap.size + 1 ≠ w.heap.size; omega)]; exact hlb
    have sD : WS.heap[W1.heap.size]? = some (.deferred (some [])) := by
      rw [hWS, Below.heap_setCell _ _ _ _ (by show W1.heap.size ≠ w.heap.size + 1; omega), Below.heap_setCell _ _ _ _ (by show W1.heap.size ≠ w.heap.size; omega)]; exact hDb
    have sB : Below w.heap.size W WS := by
      rw [hWS]
      exact ((hBb.mono (show w.heap.size ≤ w.heap.size + 1 + 1 by omega)).setCell (p := ⟨w.heap.size, 0, none⟩) (Nat.le_refl _) _).setCell (p := ⟨w.heap.size + 1, 0, none⟩) (Nat.le_succ _) _
    have slt := (Array.getElem?_eq_some_iff.1 sl).1
    have hrs : ({ busy with state := .done, pending := some .ret } : Loop) = rc .done (some .ret) := by rw [hbusy, hrc.out]
    refine ⟨_, _, run_endRound (some .ret) sl, rfl, ⟨?_, ?_, ?_, ?_⟩, ?_⟩
    · exact s2.kept (grownBy_putObj' _ _ _) (by intro e; have := Option.some.inj e; omega)
    · exact s3.kept (grownBy_putObj' _ _ _) (by intro e; have := Option.some.inj e; omega)
    · rw [← hrs]; exact World.putObj_heap_same slt
    · exact (World.putObj_heap_other (by omega)).trans sD
    · exact sB.grown (grownBy_putObj' _ _ _) (by omega) (fun k e => by have := Option.some.inj e; omega)
  case hY =>
    rintro pre p b W ⟨v, hv, hown, hb, hl, hD, hzW⟩ hlt
    have hy := run_yield (P := Tryz.prog) (args := #[pfA p]) hl (by rw [hrc]; rfl)
    rw [hrc] at hy
    refine ⟨_, _, _, _, hy, roundIn_of_wpIn trivial ?_⟩
    clear hy
    have S1 := stT_new rowPf (te := 40) W W.heap.size rfl [.bool false, .int .u64 0, .int .u64 0, .int .i64 0] (pfC p) rfl rfl (pfC_one p)
    have hl1 : (W.alloc (.cells (pfC p).toArray 40)).heap[W1.heap.size + 1]? = some (.loop (rc .ready none)) := (Below.heap_alloc _ _ _ (Array.getElem?_eq_some_iff.1 hl).1).trans hl
    replace hrc := Lib.hid hrc
    simp only [List.zip, Array.zip, List.foldl]
    gi_wp2
    refine ⟨_, run_beginRound hl1 (by rw [hrc.out]), ?_⟩
    obtain ⟨busy, hbusy⟩ : ∃ o : Loop, o = { rc .ready none with state := .busy } := ⟨_, rfl⟩
    rw [← hbusy]
    obtain ⟨Wb, hWb⟩ : ∃ X, X = (W.alloc (.cells (pfC p).toArray 40)).putObj (W1.heap.size + 1) (.loop busy) := ⟨_, rfl⟩
    rw [← hWb]
    have hlt1 := (Array.getElem?_eq_some_iff.1 hl1).1
    have hg1 : W.grownBy (W.alloc (.cells (pfC p).toArray 40)) none := World.grownBy_alloc _ _ _
    have hg2 : (W.alloc (.cells (pfC p).toArray 40)).grownBy Wb (some (W1.heap.size + 1)) := by rw [hWb]; exact grownBy_putObj' _ _ _
    have hcl := hz1.out
    have hvb : Boxed Wb (w.heap.size + 1 + 1) 26 v := (hv.alloc _).kept hg2 (by intro e; have := Option.some.inj e; omega)
    have hownb : OwnE ePf 40 (w.heap.size + 1 + 1) Wb v pre := by rw [hWb]; exact ownsRow_putObj (hown.alloc' _) _ hl1 rfl
    have hlb : Wb.heap[W1.heap.size + 1]? = some (.loop busy) := by rw [hWb]; exact World.putObj_heap_same hlt1
    have hDb : Wb.heap[W1.heap.size]? = some (.deferred (some [])) := by
      rw [hWb]
      exact (World.putObj_heap_other (by omega)).trans ((Below.heap_alloc _ _ _ (Array.getElem?_eq_some_iff.1 hD).1).trans hD)
    have hpb : Blk Wb W.heap.size (pfC p) 40 := by
      rw [hWb]
      exact (World.putObj_heap_other (by have := (Array.getElem?_eq_some_iff.1 hl).1; omega)).trans (Blk.new W _ _)
    have hszb : Wb.heap.size = W.heap.size + 1 := by rw [hWb]; simp
    have hsame : Hid (∀ k, k < W.heap.size → k ≠ W1.heap.size + 1 → Wb.heap[k]? = W.heap[k]?) := Lib.hid fun k hk hne => by
      rw [hWb]; exact (World.putObj_heap_other hne).trans (Below.heap_alloc _ _ _ hk)
    have hBb : Below (w.heap.size + 1 + 1) W Wb := by
      rw [hWb]
      exact ((Below.refl _ W).alloc hzW _).grown (grownBy_putObj' _ _ _) (by simp; omega) (fun k e => by have := Option.some.inj e; omega)
    obtain ⟨A', cp, rfl, _⟩ := hown.sl
    have hn1 : ((pre.length : Int) == 1000) = false := by rw [beq_eq_false_iff_ne]; omega
    replace hb := Lib.hid hb
    have hc := hvb.cell
    have kp := hpb.ld rowPf rfl
    clear hWb hg1 hg2 hv hown S1
    gi_wp2_with (gi_at_builtin; refine wpListIn_app tyePf rfl _ _ rfl (w.heap.size + 1 + 1) _ pre [p] rfl (hownb.alloc' _) ⟨_, 0, none⟩ 1 1 rfl rfl ?c1 ?c2 ?c3 ?_)
    case c1 => intro j u hj; first | exact hj | (rw [Enc.cells_single] at hj; exact hj)
    case c2 => omega
    case c3 => omega
    intro v' w3 hown3 hg3 hd3
    obtain ⟨hv1, hv2, hr2, hk2, hb2⟩ := hvb.appended (by decide) hownb (by omega) (Nat.le_refl _) hown3 hg3
    obtain ⟨g', cp', hv', _⟩ := hown3.form (by simp)
    subst hv'
    have hc1 := hv1.cell
    have hf1 := hv1.frozen
    gi_wp2
    have hl3 := hk2.same _ _ hlb rfl
    have hD3 := hk2.same _ _ hDb rfl
    have hlt3 := (Array.getElem?_eq_some_iff.1 hl3).1
    have hfin : ({ busy with state := .ready, pending := none } : Loop) = rc .ready none := by rw [hbusy, hrc.out]
    have hg5 : (w3.setCell ⟨w.heap.size + 1 + 1, 0, none⟩ (.slice (some ⟨g', 0, none⟩) (pre.length + 1) cp')).grownBy ((w3.setCell ⟨w.heap.size + 1 + 1, 0, none⟩ (.slice (some ⟨g', 0, none⟩) (pre.length + 1) cp')).putObj (W1.heap.size + 1) (.loop (rc .ready none))) (some (W1.heap.size + 1)) := grownBy_putObj' _ _ _
    have hpl : (pre ++ [p]).length = pre.length + 1 := by simp
    rw [hpl] at hv2 hr2 hl3 hD3 hlt3 hb2
    refine ⟨_, _, run_endRound none hl3, rfl, (Value.slice (some ⟨g', 0, none⟩) (pre.length + 1) cp').ownBlock, ⟨.slice (some ⟨g', 0, none⟩) (pre.length + 1) cp', ?_, ?_, rfl, ?_, ?_, ?_⟩, ?_⟩
    · show Boxed (World.putObj _ _ (.loop { busy with state := .ready, pending := none })) _ _ _
      rw [hfin]
      exact hv2.kept hg5 (by intro e; have := Option.some.inj e; omega)
    · show OwnE _ _ _ (World.putObj _ _ (.loop { busy with state := .ready, pending := none })) _ _
      have := ownsRow_putObj hr2 (.loop { busy with state := .ready, pending := none }) hl3 rfl
      unfold OwnE
      rw [hpl]
      exact this
    · show (World.putObj _ _ (.loop { busy with state := .ready, pending := none })).heap[_]? = _
      rw [hfin]
      exact World.putObj_heap_same hlt3
    · exact (World.putObj_heap_other (by omega)).trans hD3
    · show w.heap.size + 1 + 1 ≤ (World.putObj _ _ _).heap.size
      rw [World.putObj_size]
      have := hb2.size
      omega
    · show Keep _ _ _ _ _ _ _ (World.putObj _ _ (.loop { busy with state := .ready, pending := none }))
      rw [hfin]
      have hs3 := hb2.size
      refine ⟨?_, ?_, ?_, ?_⟩
      · exact (hBb.trans hb2).grown hg5 (by omega) (fun k e => by have := Option.some.inj e; omega)
      · rw [World.putObj_size]; omega
      · rw [← hb.out]
        rcases hd3 with e | e
        · left
          rw [← e, hpl]
        · right
          rw [hpl] at e
          exact ⟨_, by first | omega | (simp; omega), e⟩
      · intro k hk hA
        obtain ⟨a1, a2, a3, a4⟩ := hA
        rw [World.putObj_heap_other a2, Below.heap_setCell _ _ _ _ (by show k ≠ _; omega)]
        rw [hg3.block k (by simp; omega) (by rw [hb.out]; exact fun e => a4 e.symm), Below.heap_alloc _ _ _ (by omega), hsame.out k hk a2]
  · exact ((Below.refl _ W1).alloc (by have := hz1.out; omega) _).alloc (by have := hz1.out; simp; omega) _
  · exact ((bN.alloc _).alloc _).cell
  · rintro e W2 ⟨⟨v0, rfl⟩, ⟨hr2, hr3, hl, hD⟩, hBel⟩
    have hel := run_endLoop (P := Tryz.prog) hl (by rw [hrc]; simp)
    obtain ⟨W3, hW3⟩ : ∃ X, X = W2.putObj (W1.heap.size + 1) (.loop { rc .done (some .ret) with state := .exhausted }) := ⟨_, rfl⟩
    rw [← hW3] at hel
    refine ⟨some .ret, W3, by rw [hel, hrc], ?_⟩
    have hcl := hz1.out
    have hcz := hz.out
    have hg := grownBy_putObj' W2 (W1.heap.size + 1) (.loop { rc .done (some .ret) with state := .exhausted })
    rw [← hW3] at hg
    have hl2 := (Array.getElem?_eq_some_iff.1 hl).1
    have r2' := hr2.kept hg (by intro e; have := Option.some.inj e; omega)
    have r3' := hr3.kept hg (by intro e; have := Option.some.inj e; omega)
    have hD3 : W3.heap[W1.heap.size]? = some (.deferred (some [])) := by rw [hW3]; exact (World.putObj_heap_other (by omega)).trans hD
    have hB3 : Below w.heap.size w W3 := (hB2.trans hBel).grown hg (by omega) (fun k e => by have := Option.some.inj e; omega)
    clear hr2 hr3 hl hD hg hW3 hel hBel
    show Code.wpIn _ _ _ _ _ _ _
    gi_wp2
    rw [hcl] at hD3
    have g2 := (Boxed.kept r2' (grownBy_putObj' _ (w.heap.size + 1 + 1 + 1 + 1) (.deferred none)) (by intro e; have := Option.some.inj e; omega)).cell
    have g3 := (Boxed.kept r3' (grownBy_putObj' _ (w.heap.size + 1 + 1 + 1 + 1) (.deferred none)) (by intro e; have := Option.some.inj e; omega)).cell
    have hBf := hB3.grown (grownBy_putObj' _ (w.heap.size + 1 + 1 + 1 + 1) (.deferred none)) (by have := r2'.lt; omega) (fun k e => by have := Option.some.inj e; omega)
    refine ⟨by simp, .inl ⟨_, _, rfl, run_takeDeferred hD3, ?_⟩⟩
    refine ⟨.tuple #[.slice none 0 0, .int .i64 2], ?_, rfl, hBf⟩
    simp [results, Tryz.results51, go_sem, g2, g3]
end Go.Proofs.YtmgdkefoehlamaaGreatDoor
