/- Lines that are read. -/
import Derived.Test.YtmgdkefoehlamaaGreatDoorKoGzA
import Derived.Test.YtmgdkefoehlamaaGreatDoorKoRlA
import Derived.Test.YtmgdkefoehlamaaGreatDoorKoRuD
import Derived.Test.YtmgdkefoehlamaaGreatDoorKoWaysB
set_option linter.unusedVariables false
set_option linter.unusedSimpArgs false
set_option maxRecDepth 100000
namespace Go.Proofs.YtmgdkefoehlamaaGreatDoor
open Go.RowKit

attribute [local go_sem] Oper.semAt_some

set_option maxHeartbeats 4000000 in
theorem readListTg_any (f : List UInt8 → Tg) (ok : List UInt8 → Bool) (l : List UInt8) (w : World) (hl : l.length ≤ 1000000) (hpl : (pieces l 44).length ≤ 100000)
    (HR : ∀ p ∈ pieces l 44, ∀ W, Below w.heap.size w W → Calls Tryz.prog 174 #[.string ⟨p.toArray⟩] W fun e W' => e = .returned (.tuple #[.agg (tgC (f p)).toArray, .bool (ok p)]) ∧ Below W.heap.size W W') :
    Calls Tryz.prog 173 #[.string ⟨l.toArray⟩, .func (.func 174) #[] #[]] w (RlP eTg 252 f ok (pieces l 44) w) := by
  replace HR := Lib.hid HR
  replace hl := Lib.hid hl
  replace hpl := Lib.hid hpl
  refine (callsIn_wide (n := 5)).1 ?_
  refine callsIn_of_wp_marks Tryz.func173 rfl trivial ?_ rfl
  simp only [Tryz.ntmps173, List.size_toArray, List.length_cons, List.length_nil, Nat.reduceAdd, Nat.reduceSub, Array.replicate_succ, Array.replicate_zero, List.push_toArray, List.append_toArray, List.nil_append, List.cons_append]
  gi_wp2
  refine ⟨trivial, ?_⟩
  refine (callsIn_wide.2 (splitSeqFG_any 44 l _)).mono ?_
  rintro e w1 ⟨rfl, rfl⟩
  obtain ⟨c, hc⟩ : ∃ c, c = w.heap.size := ⟨_, rfl⟩
  have b0 := Boxed.new w 253 (.func (.func 174) #[] #[])
  have b1 := Boxed.new (w.alloc (.cells #[.func (.func 174) #[] #[]] 253)) 246 (.slice none 0 0)
  have b2 := Boxed.new ((w.alloc (.cells #[.func (.func 174) #[] #[]] 253)).alloc (.cells #[.slice none 0 0] 246)) 4 (.bool false)
  have b3 := Boxed.new (((w.alloc (.cells #[.func (.func 174) #[] #[]] 253)).alloc (.cells #[.slice none 0 0] 246)).alloc (.cells #[.bool false] 4)) 246 (.slice none 0 0)
  simp only [World.size_alloc, ← hc] at b0 b1 b2 b3
  obtain ⟨W0, hW0⟩ : ∃ W, W = (((w.alloc (.cells #[.func (.func 174) #[] #[]] 253)).alloc (.cells #[.slice none 0 0] 246)).alloc (.cells #[.bool false] 4)).alloc (.cells #[.slice none 0 0] 246) := ⟨_, rfl⟩
  have hz0 : W0.heap.size = c + 1 + 1 + 1 + 1 := by rw [hW0, hc]; simp
  have hb0 : Below c w W0 := by rw [hW0, hc]; exact ((((Below.refl _ _).alloc (Nat.le_refl _) _).alloc (by simp) _).alloc (by simp; omega) _).alloc (by simp; omega) _
  replace b0 : Boxed W0 c 253 (.func (.func 174) #[] #[]) := by rw [hW0]; exact ((b0.alloc _).alloc _).alloc _
  replace b1 : Boxed W0 (c + 1) 246 (.slice none 0 0) := by rw [hW0]; exact (b1.alloc _).alloc _
  replace b2 : Boxed W0 (c + 1 + 1) 4 (.bool false) := by rw [hW0]; exact b2.alloc _
  replace b3 : Boxed W0 (c + 1 + 1 + 1) 246 (.slice none 0 0) := by rw [hW0]; exact b3
  rw [← hW0]
  have bS := Boxed.new W0 9 (.string ⟨l.toArray⟩)
  have bP := Boxed.new (W0.alloc (.cells #[.string ⟨l.toArray⟩] 9)) 9 (.string ⟨#[44]⟩)
  have bV := Boxed.new ((W0.alloc (.cells #[.string ⟨l.toArray⟩] 9)).alloc (.cells #[.string ⟨#[44]⟩] 9)) 3 (.int .i64 0)
  simp only [World.size_alloc, hz0] at bS bP bV
  obtain ⟨W1, hW1⟩ : ∃ W, W = ((W0.alloc (.cells #[.string ⟨l.toArray⟩] 9)).alloc (.cells #[.string ⟨#[44]⟩] 9)).alloc (.cells #[.int .i64 0] 3) := ⟨_, rfl⟩
  have hz1 : W1.heap.size = c + 1 + 1 + 1 + 1 + 1 + 1 + 1 := by rw [hW1]; simp [hz0]
  have hB1 : Below c w W1 := by
    rw [hW1]
    exact ((hb0.alloc (by omega) _).alloc (by simp; omega) _).alloc (by simp; omega) _
  have c0 : Boxed W1 c 253 (.func (.func 174) #[] #[]) := by rw [hW1]; exact ((b0.alloc _).alloc _).alloc _
  have c1 : Boxed W1 (c + 1) 246 (.slice none 0 0) := by rw [hW1]; exact ((b1.alloc _).alloc _).alloc _
  have c2 : Boxed W1 (c + 1 + 1) 4 (.bool false) := by rw [hW1]; exact ((b2.alloc _).alloc _).alloc _
  have c3 : Boxed W1 (c + 1 + 1 + 1) 246 (.slice none 0 0) := by rw [hW1]; exact ((b3.alloc _).alloc _).alloc _
  have cS : Boxed W1 (c + 1 + 1 + 1 + 1) 9 (.string ⟨l.toArray⟩) := by rw [hW1]; exact (bS.alloc _).alloc _
  have cP : Boxed W1 (c + 1 + 1 + 1 + 1 + 1) 9 (.string ⟨#[44]⟩) := by rw [hW1]; exact bP.alloc _
  have cV : Boxed W1 (c + 1 + 1 + 1 + 1 + 1 + 1) 3 (.int .i64 0) := by rw [hW1]; exact bV
  rw [hz0]
  replace hz1 := Lib.hid hz1
  replace hc := Lib.hid hc
  clear b0 b1 b2 b3 bS bP bV hb0 hz0
  rw [← hW1]
  clear hW1 hW0
  try rw [← hc.out]
  gi_wp2
  refine range_enterI (by decide) (gf := 364) (lb := #[.pointer (some ⟨c + 1 + 1 + 1 + 1 + 1, 0, none⟩), .pointer (some ⟨c + 1 + 1 + 1 + 1, 0, none⟩), .pointer (some ⟨c + 1 + 1 + 1 + 1 + 1 + 1, 0, none⟩)]) (by simp [Act.eval]) (enters_of Tryz.func364 (by kernel_rfl) rfl) ?_
  intro fn rc hrc
  obtain ⟨D, hD⟩ : ∃ D, D = W1.heap.size := ⟨_, rfl⟩
  have hDc : D = c + 1 + 1 + 1 + 1 + 1 + 1 + 1 := by rw [hD]; exact hz1.out
  have hBe : Below c W1 ((W1.alloc (.deferred (some []))).alloc (.loop (rc .ready none))) := ((Below.refl _ W1).alloc (by omega) _).alloc (by simp; omega) _
  have hJ0 : RlJ eTg 252 246 253 4 (.func (.func 174) #[] #[]) c (D + 1) D (rc .ready none) f ok w [] ((W1.alloc (.deferred (some []))).alloc (.loop (rc .ready none))) := by
    refine ⟨(c0.alloc _).alloc _, (c1.alloc _).alloc _, (c2.alloc _).alloc _, ⟨_, (c3.alloc _).alloc _, OwnE.nil _ _⟩, ?_, ?_, rfl, hB1.trans hBe⟩
    · have := World.alloc_heap_new (W1.alloc (.deferred (some []))) (.loop (rc .ready none))
      rw [World.size_alloc, ← hD] at this
      exact this
    · rw [hD]; exact (Below.heap_alloc _ _ _ (by simp)).trans (World.alloc_heap_new W1 _)
  have eS := (cS.alloc (.deferred (some []))).alloc (.loop (rc .ready none))
  have eP := (cP.alloc (.deferred (some []))).alloc (.loop (rc .ready none))
  have eV := (cV.alloc (.deferred (some []))).alloc (.loop (rc .ready none))
  rw [← hD]
  obtain ⟨We, hWe⟩ : ∃ W, W = (W1.alloc (.deferred (some []))).alloc (.loop (rc .ready none)) := ⟨_, rfl⟩
  rw [← hWe] at hBe hJ0 eS eP eV ⊢
  have hB2 := hB1.trans hBe
  replace hDc := Lib.hid hDc
  clear hWe hBe hB1 c0 c1 c2 c3 cS cP cV hD
  refine (splitSeqG_in 44 4 (by decide) c (D + 1) (c + 1 + 1 + 1 + 1 + 1) (c + 1 + 1 + 1 + 1) (c + 1 + 1 + 1 + 1 + 1 + 1) (by omega) (by omega) l hl.out w (RlJ eTg 252 246 253 4 (.func (.func 174) #[] #[]) c (D + 1) D (rc .ready none) f ok w) (RlX 246 4 c (D + 1) D (rc .done (some .ret)) ok w) (fun pre W v h => h.set (by have := hDc.out; omega) (by have := hDc.out; omega) v) ?hY We hB2 eP eS eV hJ0).mono ?_
  case hY =>
    rintro pre p W ⟨hfn, hrs, hrb, ⟨v, hv, hown⟩, hlp, hD, hall, hB⟩ hpre hp
    have hy := run_yield (P := Tryz.prog) (args := #[.string ⟨p.toArray⟩]) hlp (by rw [hrc]; rfl)
    rw [hrc] at hy
    refine ⟨_, _, _, _, hy, roundIn_of_wpIn trivial ?_⟩
    clear hy
    replace hrc := Lib.hid hrc
    simp only [List.zip, Array.zip, List.foldl]
    have hpm : p ∈ pieces l 44 := hpre.subset (by simp)
    have hkn := Lib.hid (show (pre.map f).length + 1 ≤ 100000 by
      have := hpre.length_le
      simp at this ⊢
      have := hpl.out
      omega)
    gi_wp2
    refine ⟨_, run_beginRound hlp (by rw [hrc.out]), ?_⟩
    obtain ⟨busy, hbusy⟩ : ∃ o : Loop, o = { rc .ready none with state := .busy } := ⟨_, rfl⟩
    rw [← hbusy]
    obtain ⟨Wb, hWb⟩ : ∃ X, X = W.putObj (D + 1) (.loop busy) := ⟨_, rfl⟩
    rw [← hWb]
    have hlt1 := (Array.getElem?_eq_some_iff.1 hlp).1
    have hcl := hDc.out
    have hg2 : W.grownBy Wb (some (D + 1)) := by rw [hWb]; exact grownBy_putObj' _ _ _
    have hne : ∀ k, k ≤ D → some k ≠ some (D + 1) := fun k hk e => by have := Option.some.inj e; omega
    have hfb := hfn.kept hg2 (hne _ (by omega))
    have hrsb := hrs.kept hg2 (hne _ (by omega))
    have hrbb := hrb.kept hg2 (hne _ (by omega))
    have hvb := hv.kept hg2 (hne _ (by omega))
    have hownb : OwnE eTg 252 (c + 1 + 1 + 1 + 1 + 1 + 1 + 1) Wb v (pre.map f) := by rw [hWb]; exact ownsRow_putObj hown _ hlp rfl
    have hlb : Wb.heap[D + 1]? = some (.loop busy) := by rw [hWb]; exact World.putObj_heap_same hlt1
    have hDb : Wb.heap[D]? = some (.deferred (some [])) := by rw [hWb]; exact (World.putObj_heap_other (by omega)).trans hD
    have hszb : Wb.heap.size = W.heap.size := by rw [hWb]; simp
    have hsame : Hid (∀ k, k ≤ D → Wb.heap[k]? = W.heap[k]?) := Lib.hid fun k hk => by
      rw [hWb]; exact World.putObj_heap_other (by omega)
    have hBW : Below c W Wb := (Below.refl c W).grown hg2 (by omega) (fun k e => by have := Option.some.inj e; omega)
    have hBb : Below c w Wb := hB.trans hBW
    have HL := Lib.hid (HR.out p hpm Wb (by rw [← hc.out]; exact hBb))
    obtain ⟨b, hb⟩ : ∃ b, b = ok p := ⟨_, rfl⟩
    rw [← hb] at HL
    have hall2 := Lib.hid (show (pre ++ [p]).all ok = b by rw [List.all_append, hall, hb]; simp)
    have hmap := Lib.hid (show (pre ++ [p]).map f = pre.map f ++ [f p] by simp)
    generalize pre.map f = os at *
    generalize f p = y at *
    have cf := hfb.cell
    clear hWb hg2 hv hfn hrs hrb hown hb hB
    gi_wp2
    refine ⟨trivial, ?_⟩
    refine (CallsIn.inRound _ (callsIn_wide.2 HL.out)).mono ?_
    rintro e w3 ⟨rfl, hb3⟩
    have hs3 := hb3.size
    have kp : ∀ {B t v}, Boxed Wb B t v → Boxed w3 B t v := fun h => (hb3.block _ h.lt).trans h
    have hf3 := kp hfb
    have hrs3 := kp hrsb
    have hrb3 := kp hrbb
    have hv3 := kp hvb
    have hown3 := hownb.below hb3
    have hl3 : w3.heap[D + 1]? = some (.loop busy) := (hb3.block _ (by omega)).trans hlb
    have hD3 : w3.heap[D]? = some (.deferred (some [])) := (hb3.block _ (by omega)).trans hDb
    have hBW3 : Below c W w3 := hBW.trans (hb3.mono (by have := hvb.lt; omega))
    have hB3 : Below c w w3 := hBb.trans (hb3.mono (by have := hvb.lt; omega))
    have hsame3 : Hid (∀ k, k ≤ D → w3.heap[k]? = W.heap[k]?) := Lib.hid fun k hk => (hb3.block _ (by omega)).trans (hsame.out k hk)
    have S4 : (stT 252 (.pointer (some ⟨w3.heap.size, 0, none⟩)) (.agg (tgC y).toArray)).run Tryz.prog (w3.alloc (.cells #[.int .i64 0, .string ⟨#[]⟩, .bool false, .int .u64 0, .int .u64 0, .int .i64 0, .int .i64 0, .int .i64 0] 252)) = .ok .skip (w3.alloc (.cells (tgC y).toArray 252)) :=
      stT_new rowTg w3 w3.heap.size rfl zTgC (tgC y) rfl (tgC_len y) (tgC_one y)
    have hX := Blk.new w3 (tgC y) 252
    have lX := hX.ld rowTg (tgC_len y)
    have hwD : D + 1 < w3.heap.size := by have := (Array.getElem?_eq_some_iff.1 hl3).1; exact this
    clear hb3 hfb hrsb hrbb hvb hownb hlb hDb hBb hsame HL kp cf hBW
    cases b
    · have r1 := hrs3.alloc (.cells (tgC y).toArray 252)
      have r2 := hrb3.alloc (.cells (tgC y).toArray 252)
      have r3 : (w3.alloc (.cells (tgC y).toArray 252)).heap[D + 1]? = some (.loop busy) := (Below.heap_alloc _ _ _ hwD).trans hl3
      have r4 : (w3.alloc (.cells (tgC y).toArray 252)).heap[D]? = some (.deferred (some [])) := (Below.heap_alloc _ _ _ (by omega)).trans hD3
      have r5 := hB3.alloc (by omega) (.cells (tgC y).toArray 252)
      have r6 := hBW3.alloc (by omega) (.cells (tgC y).toArray 252)
      have c1 := r1.cell
      have f1 := r1.frozen
      have c2 := r2.cell
      have f2 := r2.frozen
      have q1 := (r1.set (.slice none 0 0)).other (B' := c + 1 + 1) (by omega) (.bool false)
      have q2 := (r2.other (B' := c + 1) (by omega) (.slice none 0 0)).set (.bool false)
      have q3 : (((w3.alloc (.cells (tgC y).toArray 252)).setCell ⟨c + 1, 0, none⟩ (.slice none 0 0)).setCell ⟨c + 1 + 1, 0, none⟩ (.bool false)).heap[D + 1]? = some (.loop busy) := (Below.heap_setCell _ _ _ _ (by show D + 1 ≠ c + 1 + 1; omega)).trans ((Below.heap_setCell _ _ _ _ (by show D + 1 ≠ c + 1; omega)).trans r3)
      have q4 : (((w3.alloc (.cells (tgC y).toArray 252)).setCell ⟨c + 1, 0, none⟩ (.slice none 0 0)).setCell ⟨c + 1 + 1, 0, none⟩ (.bool false)).heap[D]? = some (.deferred (some [])) := (Below.heap_setCell _ _ _ _ (by show D ≠ c + 1 + 1; omega)).trans ((Below.heap_setCell _ _ _ _ (by show D ≠ c + 1; omega)).trans r4)
      have q5 := (r5.setCell (p := ⟨c + 1, 0, none⟩) (by show c ≤ c + 1; omega) (.slice none 0 0)).setCell (p := ⟨c + 1 + 1, 0, none⟩) (by show c ≤ c + 1 + 1; omega) (.bool false)
      have q6 := (r6.setCell (p := ⟨c + 1, 0, none⟩) (by show c ≤ c + 1; omega) (.slice none 0 0)).setCell (p := ⟨c + 1 + 1, 0, none⟩) (by show c ≤ c + 1 + 1; omega) (.bool false)
      clear hf3 hrs3 hrb3 hv3 hown3 hl3 hD3 hBW3 hB3 hX lX
      gi_wp2
      have hltS := (Array.getElem?_eq_some_iff.1 q3).1
      refine ⟨_, _, run_endRound (some .ret) q3, .inr ⟨rfl, ⟨?_, ?_, ?_, ?_, ?_, ?_⟩, ?_⟩⟩
      · exact q1.kept (grownBy_putObj' _ _ _) (hne _ (by omega))
      · exact q2.kept (grownBy_putObj' _ _ _) (hne _ (by omega))
      · rw [hbusy, hrc.out]; exact World.putObj_heap_same hltS
      · exact (World.putObj_heap_other (by omega)).trans q4
      · exact hall2.out
      · exact q5.grown (grownBy_putObj' _ _ _) (by have := q5.size; omega) (fun k e => by have := Option.some.inj e; omega)
      · exact q6.grown (grownBy_putObj' _ _ _) (by have := q6.size; omega) (fun k e => by have := Option.some.inj e; omega)
    · obtain ⟨A', cp, rfl, _⟩ := hown3.sl
      obtain ⟨Lo, hLo⟩ : ∃ Lo, Lo = os.length := ⟨_, rfl⟩
      rw [← hLo] at hv3 hown3 hkn
      replace hLo := Lib.hid hLo
      have r0 := hf3.alloc (.cells (tgC y).toArray 252)
      have r1 := hrs3.alloc (.cells (tgC y).toArray 252)
      have r2 := hrb3.alloc (.cells (tgC y).toArray 252)
      have rv := hv3.alloc (.cells (tgC y).toArray 252)
      have r3 : (w3.alloc (.cells (tgC y).toArray 252)).heap[D + 1]? = some (.loop busy) := (Below.heap_alloc _ _ _ hwD).trans hl3
      have r4 : (w3.alloc (.cells (tgC y).toArray 252)).heap[D]? = some (.deferred (some [])) := (Below.heap_alloc _ _ _ (by omega)).trans hD3
      have r5 := hB3.alloc (by omega) (.cells (tgC y).toArray 252)
      have r6 := hBW3.alloc (by omega) (.cells (tgC y).toArray 252)
      have hownA := hown3.below ((Below.refl _ _).alloc (Nat.le_refl _) (.cells (tgC y).toArray 252))
      have hsA : Hid (∀ k, k ≤ D → (w3.alloc (.cells (tgC y).toArray 252)).heap[k]? = W.heap[k]?) := Lib.hid fun k hk => (Below.heap_alloc _ _ _ (by omega)).trans (hsame3.out k hk)
      have hzA : (w3.alloc (.cells (tgC y).toArray 252)).heap.size = w3.heap.size + 1 := World.size_alloc _ _
      obtain ⟨wA, hwA⟩ : ∃ wA, wA = w3.alloc (.cells (tgC y).toArray 252) := ⟨_, rfl⟩
      have cv := rv.cell
      replace hzA := Lib.hid hzA
      clear hf3 hrs3 hrb3 hv3 hown3 hl3 hD3 hBW3 hB3 hX hsame3
      gi_wp2_with (gi_at_builtin; refine wpListIn_appI tyeTg rfl _ _ rfl (c + 1 + 1 + 1 + 1 + 1 + 1 + 1) _ os [y] rfl (hownA.below ((Below.refl _ _).alloc (Nat.le_refl _) _)) ⟨_, 0, none⟩ 1 1 rfl rfl ?c1 ?c2 ?c3 ?_)
      case c1 =>
        intro j u hj
        rw [Enc.cells_single] at hj
        have := (Blk.new (w3.alloc (.cells (tgC y).toArray 252)) (tgC y) 252).cell (i := j) hj
        rw [World.size_alloc] at this
        rw [Addr.add_lit, Nat.zero_add]
        exact this
      case c2 => have := hkn.out; have := hLo.out; simp only [List.length_singleton]; omega
      case c3 => simp; omega
      intro v' w5 hown5 hg5 hd5
      have ko : ∀ k, k < c + 1 + 1 + 1 + 1 + 1 + 1 + 1 → some k ≠ (Value.slice A' Lo cp).ownBlock := fun k hk e => by have := (hownA.lt _ e.symm).1; omega
      rw [← hwA] at r0 r1 r2 rv r3 r4 r5 r6 hownA hsA hg5 hzA
      have hzA' := hzA.out
      have kp : ∀ {B t v}, B < c + 1 + 1 + 1 + 1 + 1 + 1 + 1 → Boxed wA B t v → Boxed w5 B t v := fun hk h => (hg5.block _ (by have := h.lt; simp; omega) (ko _ hk)).trans ((Below.heap_alloc _ _ _ h.lt).trans h)
      have s0 := kp (by omega) r0
      have s1 := kp (by omega) r1
      have s2 := kp (by omega) r2
      have sv := kp (by omega) rv
      have s3 : w5.heap[D + 1]? = some (.loop busy) := (hg5.block _ (by simp; omega) (fun e => by
        obtain ⟨cs, hcs⟩ := own_cellsU hownA e.symm
        rw [r3] at hcs; cases hcs)).trans ((Below.heap_alloc _ _ _ (by omega)).trans r3)
      have s4 : w5.heap[D]? = some (.deferred (some [])) := (hg5.block _ (by simp; omega) (fun e => by
        obtain ⟨cs, hcs⟩ := own_cellsU hownA e.symm
        rw [r4] at hcs; cases hcs)).trans ((Below.heap_alloc _ _ _ (by omega)).trans r4)
      have hfw : ∀ k, (Value.slice A' Lo cp).ownBlock = some k → c ≤ k := fun k h => by have := (hownA.lt k h).1; omega
      have s5 := (r5.alloc (by omega) (.cells (tgC y).toArray 252)).grown hg5 (by simp; omega) hfw
      have s6 := (r6.alloc (by omega) (.cells (tgC y).toArray 252)).grown hg5 (by simp; omega) hfw
      have s7 : Hid (∀ k, k < c + 1 + 1 + 1 + 1 + 1 + 1 + 1 → w5.heap[k]? = W.heap[k]?) := Lib.hid fun k hk => (hg5.block _ (by simp; omega) (ko _ hk)).trans ((Below.heap_alloc _ _ _ (by omega)).trans (hsA.out k (by omega)))
      have hf5 := sv.frozen
      have hc5 := sv.cell
      obtain ⟨g', cp', hv', _⟩ := hown5.form (by simp)
      obtain ⟨L, hL⟩ : ∃ L, L = (os ++ [y]).length := ⟨_, rfl⟩
      rw [← hL] at hv'
      subst hv'
      clear hL
      replace hown5 := Lib.hid hown5
      clear hg5 hd5 hownA r0 r1 r2 rv r3 r4 r5 r6 hsA cv kp ko hfw S4 lX
      gi_wp2
      have q0 := s0.other (B' := c + 1 + 1 + 1) (by omega) (.slice (some ⟨g', 0, none⟩) L cp')
      have q1 := s1.other (B' := c + 1 + 1 + 1) (by omega) (.slice (some ⟨g', 0, none⟩) L cp')
      have q2 := s2.other (B' := c + 1 + 1 + 1) (by omega) (.slice (some ⟨g', 0, none⟩) L cp')
      have qv := sv.set (.slice (some ⟨g', 0, none⟩) L cp')
      have q3 : (w5.setCell ⟨c + 1 + 1 + 1, 0, none⟩ (.slice (some ⟨g', 0, none⟩) L cp')).heap[D + 1]? = some (.loop busy) := (Below.heap_setCell _ _ _ _ (by show D + 1 ≠ c + 1 + 1 + 1; omega)).trans s3
      have q4 : (w5.setCell ⟨c + 1 + 1 + 1, 0, none⟩ (.slice (some ⟨g', 0, none⟩) L cp')).heap[D]? = some (.deferred (some [])) := (Below.heap_setCell _ _ _ _ (by show D ≠ c + 1 + 1 + 1; omega)).trans s4
      have q5 := s5.setCell (p := ⟨c + 1 + 1 + 1, 0, none⟩) (by show c ≤ c + 1 + 1 + 1; omega) (.slice (some ⟨g', 0, none⟩) L cp')
      have q6 := s6.setCell (p := ⟨c + 1 + 1 + 1, 0, none⟩) (by show c ≤ c + 1 + 1 + 1; omega) (.slice (some ⟨g', 0, none⟩) L cp')
      have qo : OwnE eTg 252 (c + 1 + 1 + 1 + 1 + 1 + 1 + 1) (w5.setCell ⟨c + 1 + 1 + 1, 0, none⟩ (.slice (some ⟨g', 0, none⟩) L cp')) (.slice (some ⟨g', 0, none⟩) L cp') (os ++ [y]) := own_gbI hown5.out (grownBy_setCell' w5 (c + 1 + 1 + 1) (.slice (some ⟨g', 0, none⟩) L cp')) (fun r e he => by have := Option.some.inj e; have := (hown5.out.lt r he).1; omega)
      have q7 : ∀ k, k = c + 1 + 1 + 1 + 1 + 1 ∨ k = c + 1 + 1 + 1 + 1 ∨ k = c + 1 + 1 + 1 + 1 + 1 + 1 → (w5.setCell ⟨c + 1 + 1 + 1, 0, none⟩ (.slice (some ⟨g', 0, none⟩) L cp')).heap[k]? = W.heap[k]? := fun k hk => (Below.heap_setCell _ _ _ _ (by show k ≠ c + 1 + 1 + 1; omega)).trans (s7.out k (by omega))
      have hltS := (Array.getElem?_eq_some_iff.1 q3).1
      refine ⟨_, _, run_endRound none q3, .inl ⟨rfl, ⟨?_, ?_, ?_, ⟨.slice (some ⟨g', 0, none⟩) L cp', ?_, ?_⟩, ?_, ?_, ?_, ?_⟩, ?_, ?_⟩⟩
      · exact q0.kept (grownBy_putObj' _ _ _) (hne _ (by omega))
      · exact q1.kept (grownBy_putObj' _ _ _) (hne _ (by omega))
      · exact q2.kept (grownBy_putObj' _ _ _) (hne _ (by omega))
      · exact qv.kept (grownBy_putObj' _ _ _) (hne _ (by omega))
      · rw [hmap.out]; exact ownsRow_putObj qo _ q3 rfl
      · rw [hbusy, hrc.out]; exact World.putObj_heap_same hltS
      · exact (World.putObj_heap_other (by omega)).trans q4
      · exact hall2.out
      · exact q5.grown (grownBy_putObj' _ _ _) (by have := q5.size; omega) (fun k e => by have := Option.some.inj e; omega)
      · exact ⟨(World.putObj_heap_other (by omega)).trans (q7 _ (.inl rfl)), (World.putObj_heap_other (by omega)).trans (q7 _ (.inr (.inl rfl))), (World.putObj_heap_other (by omega)).trans (q7 _ (.inr (.inr rfl)))⟩
      · exact q6.grown (grownBy_putObj' _ _ _) (by have := q6.size; omega) (fun k e => by have := Option.some.inj e; omega)
  · rintro e W2 ⟨⟨v0, rfl⟩, hor, hBel⟩
    have hcl := hDc.out
    have hne : ∀ k, k ≤ D → some k ≠ some (D + 1) := fun k hk e => by have := Option.some.inj e; omega
    have hne2 : ∀ k, k < D → some k ≠ some D := fun k hk e => by have := Option.some.inj e; omega
    rcases hor with ⟨hfn, hrs, hrb, ⟨v, hv, hown⟩, hlp, hD, hall, hB⟩ | ⟨pre, hpre, hrs, hrb, hlp, hD, hall, hB⟩
    · have hel := run_endLoop (P := Tryz.prog) hlp (by rw [hrc]; simp)
      obtain ⟨W3, hW3⟩ : ∃ X, X = W2.putObj (D + 1) (.loop { rc .ready none with state := .exhausted }) := ⟨_, rfl⟩
      rw [← hW3] at hel
      refine ⟨none, W3, by rw [hel, hrc], ?_⟩
      have hg := grownBy_putObj' W2 (D + 1) (.loop { rc .ready none with state := .exhausted })
      rw [← hW3] at hg
      have t1 := hrs.kept hg (hne _ (by omega))
      have t2 := hrb.kept hg (hne _ (by omega))
      have tv := hv.kept hg (hne _ (by omega))
      have tow : OwnE eTg 252 (c + 1 + 1 + 1 + 1 + 1 + 1 + 1) W3 v ((pieces l 44).map f) := by rw [hW3]; exact ownsRow_putObj hown _ hlp rfl
      have tD : W3.heap[D]? = some (.deferred (some [])) := by rw [hW3]; exact (World.putObj_heap_other (by omega)).trans hD
      have tB : Below c w W3 := hB.grown hg (by have := hv.lt; omega) (fun k e => by have := Option.some.inj e; omega)
      obtain ⟨A', cp, rfl, _⟩ := tow.sl
      obtain ⟨L, hL⟩ : ∃ L, L = ((pieces l 44).map f).length := ⟨_, rfl⟩
      rw [← hL] at tv tow
      have cv := tv.cell
      have c1 := t1.cell
      have f1 := t1.frozen
      have c2 := t2.cell
      have f2 := t2.frozen
      replace hL := Lib.hid hL
      have u1 := (t1.set (.slice A' L cp)).other (B' := c + 1 + 1) (by omega) (.bool true)
      have u2 := (t2.other (B' := c + 1) (by omega) (.slice A' L cp)).set (.bool true)
      have uD : ((W3.setCell ⟨c + 1, 0, none⟩ (.slice A' L cp)).setCell ⟨c + 1 + 1, 0, none⟩ (.bool true)).heap[D]? = some (.deferred (some [])) := (Below.heap_setCell _ _ _ _ (by show D ≠ c + 1 + 1; omega)).trans ((Below.heap_setCell _ _ _ _ (by show D ≠ c + 1; omega)).trans tD)
      have uB := (tB.setCell (p := ⟨c + 1, 0, none⟩) (by show c ≤ c + 1; omega) (.slice A' L cp)).setCell (p := ⟨c + 1 + 1, 0, none⟩) (by show c ≤ c + 1 + 1; omega) (.bool true)
      have uo := own_gbI (own_gbI tow (grownBy_setCell' W3 (c + 1) (.slice A' L cp)) (fun r e he => by have := Option.some.inj e; have := (tow.lt r he).1; omega)) (grownBy_setCell' _ (c + 1 + 1) (.bool true)) (fun r e he => by have := Option.some.inj e; have := (tow.lt r he).1; omega)
      clear hfn hrs hrb hv hown hlp hD hg hW3 hel hBel t1 t2 tv tow tD tB hB
      gi_wp2
      have g1 := (u1.kept (grownBy_putObj' _ D (.deferred none)) (hne2 _ (by omega))).cell
      have g2 := (u2.kept (grownBy_putObj' _ D (.deferred none)) (hne2 _ (by omega))).cell
      have ho2 := ownsRow_putObj uo (.deferred none) uD rfl
      have hBf := uB.grown (grownBy_putObj' _ D (.deferred none)) (by have := u1.lt; omega) (fun k e => by have := Option.some.inj e; omega)
      rw [hcl] at uD g1 g2 hBf ho2
      refine ⟨by simp, .inl ⟨_, _, rfl, run_takeDeferred uD, ?_⟩⟩
      refine ⟨.tuple #[.slice A' L cp, .bool true], ?_, by rw [← hc.out]; exact hBf, .inl ⟨hall, _, rfl, OwnE.mono ho2 (by have := hc.out; omega)⟩⟩
      simp [results, Tryz.results173, go_sem, g1, g2]
    · have hel := run_endLoop (P := Tryz.prog) hlp (by rw [hrc]; simp)
      obtain ⟨W3, hW3⟩ : ∃ X, X = W2.putObj (D + 1) (.loop { rc .done (some .ret) with state := .exhausted }) := ⟨_, rfl⟩
      rw [← hW3] at hel
      refine ⟨some .ret, W3, by rw [hel, hrc], ?_⟩
      have hg := grownBy_putObj' W2 (D + 1) (.loop { rc .done (some .ret) with state := .exhausted })
      rw [← hW3] at hg
      have t1 := hrs.kept hg (hne _ (by omega))
      have t2 := hrb.kept hg (hne _ (by omega))
      have tD : W3.heap[D]? = some (.deferred (some [])) := by rw [hW3]; exact (World.putObj_heap_other (by omega)).trans hD
      have tB : Below c w W3 := hB.grown hg (by have := hrs.lt; omega) (fun k e => by have := Option.some.inj e; omega)
      have hallF : (pieces l 44).all ok = false := by
        obtain ⟨rest, hr⟩ := hpre
        rw [← hr, List.all_append, hall, Bool.false_and]
      clear hrs hrb hlp hD hg hW3 hel hBel hall hB
      show Code.wpIn _ _ _ _ _ _ _
      gi_wp2
      have g1 := (t1.kept (grownBy_putObj' _ D (.deferred none)) (hne2 _ (by omega))).cell
      have g2 := (t2.kept (grownBy_putObj' _ D (.deferred none)) (hne2 _ (by omega))).cell
      have hBf := tB.grown (grownBy_putObj' _ D (.deferred none)) (by have := t1.lt; omega) (fun k e => by have := Option.some.inj e; omega)
      rw [hcl] at tD g1 g2 hBf
      refine ⟨by simp, .inl ⟨_, _, rfl, run_takeDeferred tD, ?_⟩⟩
      refine ⟨.tuple #[.slice none 0 0, .bool false], ?_, by rw [← hc.out]; exact hBf, .inr ⟨hallF, rfl⟩⟩
      simp [results, Tryz.results173, go_sem, g1, g2]
end Go.Proofs.YtmgdkefoehlamaaGreatDoor
namespace Go.Proofs.YtmgdkefoehlamaaGreatDoor
open Go.RowKit

set_option maxHeartbeats 400000 in
theorem readOptionShort_any (A : Option Addr) (n c : Nat) (name : List UInt8) (fv : Value) (w : World) (hn : n < 2) :
    Calls Tryz.prog 175 #[.slice A n c, .string ⟨name.toArray⟩, fv] w fun e w' => e = .returned (.tuple #[.slice A n c, .bool true]) ∧ w = w' := by
  have h1 : (n : Int) < 2 := by omega
  have d1 : decide ((n : Int) < 2) = true := decide_eq_true h1
  go_enter Tryz.func175, Tryz.ntmps175
  go_wp2_with fail
  go_ret2
  exact ⟨rfl, rfl⟩
def rdC (gr : Value) (last : Int) : List Value := [.slice none 0 0, .slice none 0 0, gr, .slice none 0 0, .int .i64 last]

set_option maxHeartbeats 400000 in
theorem comes_any (R : Nat) (last k : Int) (w : World) (hR : Blk w R (rdC (.slice none 0 0) last) 110) (hk : last ≤ k) :
    Calls Tryz.prog 102 #[.pointer (some ⟨R, 0, none⟩), .int .i64 k] w fun e w' => e = .returned (.bool true) ∧ w' = w.setCell ⟨R, 4, none⟩ (.int .i64 k) := by
  have c4 := hR.cell (i := 4) (v := .int .i64 last) rfl
  have f4 := hR.free 4
  have d4 : decide (last ≤ k) = true := decide_eq_true hk
  go_enter Tryz.func102, Tryz.ntmps102
  go_wp2_with fail
  go_ret
  exact ⟨rfl, rfl⟩

theorem two_mem2 {a b : Nat} {P : Nat → Prop} (h1 : P a) (h2 : P b) : ∀ q ∈ [a, b], P q := by
  intro q hq
  rcases List.mem_cons.1 hq with h | h
  · rw [h]; exact h1
  · rw [List.mem_singleton.1 h]; exact h2
theorem gb_below_none {w w' : World} (h : w.grownBy w' (Value.slice none 0 0).ownBlock) : Below w.heap.size w w' := ⟨h.os, h.tape, h.output, h.size, fun k hk => h.block k hk (by intro e; cases e)⟩
theorem gb_belU {a x y : World} {r : Option Nat} {B : Nat} (h : a.grownBy x r) (hb : Below B x y) (hB : a.heap.size ≤ B) : a.grownBy y r :=
  ⟨hb.os.trans h.os, hb.tape.trans h.tape, hb.output.trans h.output, Nat.le_trans h.size hb.size, fun k hk hne => (hb.block k (Nat.lt_of_lt_of_le hk hB)).trans (h.block k hk hne)⟩
theorem gb_cell1U (w : World) (p i : Nat) (x : Value) : w.grownBy (w.setCell ⟨p, i, none⟩ x) (some p) :=
  ⟨rfl, rfl, rfl, by simp, fun k _ hne => Below.heap_setCell _ _ _ _ (by intro e; exact hne (by rw [e]))⟩
theorem slE_gbU {α : Type} {E : Enc α} {w w' : World} {A : Option Addr} {n cap : Nat} {xs : List α} {r : Option Nat} (h : SlE E w A n cap xs) (hg : w.grownBy w' r) (hr : ∀ ad, A = some ad → some ad.block ≠ r) : SlE E w' A n cap xs := by
  obtain ⟨h1, h2, h3, h4⟩ := h
  refine ⟨h1, h2, h3, ?_⟩
  rcases h4 with h4 | ⟨g, off, hA, hlt, hc⟩
  · exact .inl h4
  · exact .inr ⟨g, off, hA, Nat.lt_of_lt_of_le hlt hg.size, fun k x hx i v hv => hg.cell (hc k x hx i v hv) (fun e => hr _ hA e)⟩
theorem pieces_star : pieces [42] 44 = [[42]] := by decide
def OneP {α : Type} (E : Enc α) (t : TypeId) (x : α) (w : World) (e : Ending) (w' : World) : Prop := ∃ g c, e = .returned (.tuple #[.slice (some ⟨g, 0, none⟩) 1 c, .bool true]) ∧ SlE E w' (some ⟨g, 0, none⟩) 1 c [x] ∧ Below w.heap.size w w' ∧ w.heap.size ≤ g
theorem RlP.one {α : Type} {E : Enc α} {t : TypeId} {x : α} {w w' : World} {e : Ending} (h : RlP E t (fun _ => x) (fun _ => true) (pieces [42] 44) w e w') : OneP E t x w e w' := by
  rw [pieces_star] at h
  obtain ⟨hb, ⟨_, v, rfl, hown⟩ | ⟨h0, _⟩⟩ := h
  · obtain ⟨g, c, hv, hgB, _⟩ := hown.form (by simp)
    obtain ⟨A', c', hv', hS⟩ := hown.sl
    rw [hv] at hv'
    injection hv' with e1 e2 e3
    subst e1 e3
    exact ⟨g, c, by rw [hv]; rfl, hS, hb, hgB⟩
  · cases h0
theorem readListWhStar_any (w : World) (hF : Rd2 w) : Calls Tryz.prog 171 #[.string ⟨#[42]⟩, .func (.func 172) #[] #[]] w (OneP eWh 244 wStar w) :=
  (readListWh_any (fun _ => wStar) (fun _ => true) [42] w (by decide) (by rw [pieces_star]; decide) (fun p hp W hW => by
    rw [pieces_star] at hp
    rw [List.mem_singleton.1 hp]
    exact readWhatStar_any W (hF.below hW))).mono fun _ _ h => h.one
theorem readListTgStar_any (w : World) (hF : Rd2 w) : Calls Tryz.prog 173 #[.string ⟨#[42]⟩, .func (.func 174) #[] #[]] w (OneP eTg 252 tStar w) :=
  (readListTg_any (fun _ => tStar) (fun _ => true) [42] w (by decide) (by rw [pieces_star]; decide) (fun p hp W hW => by
    rw [pieces_star] at hp
    rw [List.mem_singleton.1 hp]
    exact readTargetStar_any W (hF.below hW))).mono fun _ _ h => h.one
def GrP (R : Nat) (w : World) (e : Ending) (w' : World) : Prop := e = .returned (.bool true) ∧ ∃ g c s d, Blk w' R (rdC (.slice (some ⟨g, 0, none⟩) 1 c) 2) 110 ∧ OwnE eGt 255 w.heap.size w' (.slice (some ⟨g, 0, none⟩) 1 c) [⟨s, d, 0, ⟨none, 0, 0⟩⟩] ∧ SlE eWh w' s.A s.n s.c [wStar] ∧ SlE eTg w' d.A d.n d.c [tStar] ∧ w.grownBy w' (some R)

set_option maxHeartbeats 4000000 in
theorem takeGrantStar_any (R gw : Nat) (w : World) (hF : Rd2 w) (hR : Blk w R (rdC (.slice none 0 0) 2) 110) (hgw0 : gw < w.heap.size) (k1 : w.cell? ⟨gw, 1, none⟩ = some (.string ⟨#[42]⟩)) (k2 : w.cell? ⟨gw, 2, none⟩ = some (.string ⟨#[45, 62]⟩)) (k3 : w.cell? ⟨gw, 3, none⟩ = some (.string ⟨#[42]⟩)) :
    Calls Tryz.prog 105 #[.pointer (some ⟨R, 0, none⟩), .slice (some ⟨gw, 1, none⟩) 3 3] w (GrP R w) := by
  have H1 := Lib.hid (readListWhStar_any w hF)
  have hgw := Below.refl w.heap.size w
  have hRw := hR.lt
  go_enter Tryz.func105, Tryz.ntmps105
  go_wp2_with fail
  refine H1.out.mono ?_
  rintro e w1 ⟨gs, cs, rfl, hSs, hb1, hgs⟩
  have hs1 := hb1.size
  replace hF := hF.below hb1
  replace hR := hR.below hb1
  replace hgw := hgw.trans hb1
  have k3' : w1.cell? ⟨gw, 3, none⟩ = some (.string ⟨#[42]⟩) := by rw [World.cell?_of_block (w := w) (hb1.block _ hgw0)]; exact k3
  have H2 := Lib.hid (readListTgStar_any w1 hF)
  clear H1 hb1 k1 k2 k3
  go_wp2_with fail
  refine H2.out.mono ?_
  rintro e w2 ⟨gd, cd, rfl, hSt, hb2, hgd0⟩
  have hgd : w.heap.size ≤ gd := Nat.le_trans hs1 hgd0
  clear hgd0 hs1
  replace hR := hR.below hb2
  replace hSs := hSs.below hb2
  replace hgw := hgw.trans (hb2.mono hgw.size)
  clear H2 hb2 k3' hF
  obtain ⟨gt, hgt⟩ : ∃ gt : Gt, gt = ⟨⟨some ⟨gs, 0, none⟩, 1, cs⟩, ⟨some ⟨gd, 0, none⟩, 1, cd⟩, 0, ⟨none, 0, 0⟩⟩ := ⟨_, rfl⟩
  have B5 : (bdT 255 (.slice (some ⟨gs, 0, none⟩) 1 cs) (.slice (some ⟨gd, 0, none⟩) 1 cd)).run Tryz.prog w2 = .ok (.value (.agg (gtC gt).toArray)) w2 := by rw [hgt]; exact run_bdGt ⟨some ⟨gs, 0, none⟩, 1, cs⟩ ⟨some ⟨gd, 0, none⟩, 1, cd⟩ w2
  have S5 : (stT 255 (.pointer (some ⟨w2.heap.size, 0, none⟩)) (.agg (gtC gt).toArray)).run Tryz.prog (w2.alloc (.cells #[.slice none 0 0, .slice none 0 0, .int .i64 0, .slice none 0 0] 255)) = .ok .skip (w2.alloc (.cells (gtC gt).toArray 255)) :=
    stT_new rowGt w2 w2.heap.size rfl zGtC (gtC gt) rfl (gtC_len _) (gtC_one _)
  have hG := Blk.new w2 (gtC gt) 255
  have hrl := hR.lt
  have hgn : R ≠ w2.heap.size := by omega
  have hbA : Below w2.heap.size w2 (w2.alloc (.cells (gtC gt).toArray 255)) := (Below.refl _ _).alloc (Nat.le_refl _) _
  replace hR := hR.below hbA
  replace hSs := hSs.below hbA
  replace hSt := hSt.below hbA
  replace hgw := hgw.trans (hbA.mono hgw.size)
  have hgw2 : w.grownBy (w2.alloc (.cells (gtC gt).toArray 255)) (some R) := ⟨hgw.os, hgw.tape, hgw.output, hgw.size, fun k hk _ => hgw.block k hk⟩
  have hzw := hgw.size
  replace hgt := Lib.hid hgt
  go_upto_region 6 with fail
  obtain ⟨wX, hwX⟩ : ∃ x, x = w2.alloc (.cells (gtC gt).toArray 255) := ⟨_, rfl⟩
  rw [← hwX] at hG hR hSs hSt hgw2 hgw hzw ⊢
  generalize w2.heap.size = gp at hG hgn ⊢
  clear hwX hbA B5 S5 hgw
  have hgw := hgw2
  clear hgw2
  go_wp2_with fail
  refine (readOptionShort_any _ _ _ _ _ _ (by decide)).mono ?_
  rintro e wo ⟨rfl, rfl⟩
  go_wp2_with fail
  refine (readOptionShort_any _ _ _ _ _ _ (by decide)).mono ?_
  rintro e wo ⟨rfl, rfl⟩
  go_upto_region 8 with fail
  refine wb_begin ([R, gp]) [12] (by kernel_rfl) (fun u0 hb0' hz0' => ?_)
  replace hR := hR.below hb0'
  replace hG := hG.below hb0'
  replace hSs := hSs.below hb0'
  replace hSt := hSt.below hb0'
  replace hgw := gb_belU hgw hb0' (by have := hgw.size; omega)
  replace hzw : w.heap.size ≤ _ := Nat.le_trans hzw hb0'.size
  clear hb0' hz0'
  refine wb_pureZ 0 (some 52) (v := ?_) ?_ ?_; rotate_left; · (intro u; go_simp; try with_reducible rfl)
  try simp only [Act.put, gzD, gzE, gzF]
  refine wb_pureZ 1 (some 53) (v := ?_) ?_ ?_; rotate_left; · (intro u; go_simp; try with_reducible rfl)
  try simp only [Act.put, gzD, gzE, gzF]
  refine wb_pureZ 2 (some 54) (v := ?_) ?_ ?_; rotate_left; · (intro u; go_simp; try with_reducible rfl)
  try simp only [Act.put, gzD, gzE, gzF]
  refine wb_pureZ 3 (some 55) (v := ?_) ?_ ?_; rotate_left; · (intro u; go_simp; try with_reducible rfl)
  try simp only [Act.put, gzD, gzE, gzF]
  refine wb_pureZ 4 (some 56) (v := ?_) ?_ ?_; rotate_left; · (intro u; go_simp; try with_reducible rfl)
  try simp only [Act.put, gzD, gzE, gzF]
  refine wb_takeZ 5 (some 57) (v := ?_) ?_ ?_; rotate_left; · (intro u hu; have kR := (hR.kb hu (List.mem_cons_self ..)).cell (i := 2) rfl; have kG := (hG.kb hu (List.mem_cons_of_mem _ (List.mem_singleton.2 rfl))).ld rowGt (gtC_len gt); go_simp; try with_reducible rfl)
  try simp only [Act.put, gzD, gzE, gzF]
  refine wb_takeZ 6 (some 58) (v := ?_) ?_ ?_; rotate_left; · (intro u hu; have kR := (hR.kb hu (List.mem_cons_self ..)).cell (i := 2) rfl; have kG := (hG.kb hu (List.mem_cons_of_mem _ (List.mem_singleton.2 rfl))).ld rowGt (gtC_len gt); go_simp; try with_reducible rfl)
  try simp only [Act.put, gzD, gzE, gzF]
  refine wb_oneZ 7 (fun K hK => ?_)
  go_simp
  refine hK _ _ (Kb.gb (World.grownBy_alloc _ _ none) (two_mem2 ⟨hR.lt, by simp⟩ ⟨hG.lt, by simp⟩)) ?_
  refine wb_new (cs := gtC gt) (t := 255) (fun u3 hv3 hL3 hz3 => ?_)
  replace hR := hR.below hv3
  replace hG := hG.below hv3
  replace hSs := hSs.below hv3
  replace hSt := hSt.below hv3
  replace hgw := gb_belU hgw hv3 hgw.size
  replace hzw := Nat.le_trans hzw hv3.size
  clear hK K hv3 hz3
  try simp only [Act.put, gzD, gzE, gzF]
  refine wb_oneZ 8 (fun K hK => ?_)
  refine wp_app tyeGt _ _ rfl (w.heap.size) _ [] [gt] rfl (OwnE.nil _ _) ⟨_, 0, none⟩ 1 1 rfl rfl ?c1 ?c2 ?c3 ?_
  case c1 =>
    intro j u hj
    rw [Enc.cells_single] at hj
    rw [Addr.add_lit, Nat.zero_add]
    exact hL3.cell hj
  case c2 => simp
  case c3 => exact hzw
  intro v3 x3 hown3 hg3 hd3
  clear hd3
  have hg3' : Below _ u3 x3 := gb_below_none hg3
  refine hK _ _ (Kb.below hg3' (two_mem2 hR.lt hG.lt)) ?_
  replace hR := hR.below hg3'
  replace hSs := hSs.below hg3'
  replace hSt := hSt.below hg3'
  replace hgw := gb_belU hgw hg3' hgw.size
  replace hzw := Nat.le_trans hzw hg3'.size
  obtain ⟨g3, c3, rfl, hg3w, hg3l, _, _⟩ := hown3.form (by simp)
  clear hK K hg3 hg3' hL3 hG
  try simp only [Act.put, gzD, gzE, gzF]
  refine wb_pureZ 9 (some 61) (v := ?_) ?_ ?_; rotate_left; · (intro u; go_simp; try with_reducible rfl)
  try simp only [Act.put, gzD, gzE, gzF]
  refine wb_pureZ 10 (some 62) (v := ?_) ?_ ?_; rotate_left; · (intro u; go_simp; try with_reducible rfl)
  try simp only [Act.put, gzD, gzE, gzF]
  refine wb_pureZ 11 (some 63) (v := ?_) ?_ ?_; rotate_left; · (intro u; go_simp; try with_reducible rfl)
  try simp only [Act.put, gzD, gzE, gzF]
  refine wb_store (i := 12) (by simp only [gzA, gzB, gzC] <;> rfl) (by kernel_rfl) (by rfl) (by kernel_rfl) (fun K hK => ?_)
  go_simp
  have cR := hR.cell (i := 2) rfl
  have fR := hR.free 2
  go_simp
  refine hK _ _ ?_
  clear hK K
  try simp only [Act.put, gzD, gzE, gzF]
  refine wb_done (by kernel_rfl) ?_ _
  skip
  have hRS := hR.set 2 (.slice (some ⟨g3, 0, none⟩) 1 c3)
  have hgS := gb_cell1U x3 R 2 (.slice (some ⟨g3, 0, none⟩) 1 c3)
  have hoS : OwnE eGt 255 w.heap.size (x3.setCell ⟨R, 2, none⟩ (.slice (some ⟨g3, 0, none⟩) 1 c3)) (.slice (some ⟨g3, 0, none⟩) 1 c3) [gt] := OwnE.gb (show OwnE eGt 255 w.heap.size x3 (.slice (some ⟨g3, 0, none⟩) 1 c3) [gt] from hown3) hgS (.inr (by intro e; have h : g3 = R := Option.some.inj e; omega))
  have h1S := slE_gbU hSs hgS (fun ad e k => by cases e; have h : gs = R := Option.some.inj k; omega)
  have h2S := slE_gbU hSt hgS (fun ad e k => by cases e; have h : gd = R := Option.some.inj k; omega)
  have hgF := gb_trans hgw hgS
  rw [hgt.out] at hoS
  clear hR hSs hSt hgw hzw hown3 hgS
  replace hRS := Lib.hid hRS
  replace hoS := Lib.hid hoS
  replace h1S := Lib.hid h1S
  replace h2S := Lib.hid h2S
  go_wp2_with fail
  go_ret
  exact ⟨rfl, g3, c3, _, _, hRS.out, hoS.out, h1S.out, h2S.out, hgF⟩

theorem Rd2.setCell {w : World} (h : Rd2 w) {p : Addr} (hp : 11 ≤ p.block) (v : Value) : Rd2 (w.setCell p v) := by
  have hl := h.lt
  obtain ⟨m, hm⟩ := h.maxl
  refine ⟨⟨m, ?_⟩, ?_, Nat.le_trans hl (by simp [World.setCell])⟩
  · rw [World.cell?_of_block (w := w) (Below.heap_setCell _ _ _ _ (fun e => by have e' : 3 = p.block := e; omega))]; exact hm
  · intro i v hv
    have := h.forms i v hv
    rw [World.cell?_of_block (w := w) (Below.heap_setCell _ _ _ _ (fun e => by have e' : 2 = p.block := e; omega))]
    exact this
abbrev lineB : ByteArray := ⟨#[97, 108, 108, 111, 119, 32, 42, 32, 45, 62, 32, 42]⟩
theorem line_count : Lib.countB lineB ⟨#[32]⟩ = 3 := by decide +kernel
theorem line_split : Lib.splitB ⟨#[32]⟩ 0 3 lineB = [⟨#[97, 108, 108, 111, 119]⟩, ⟨#[42]⟩, ⟨#[45, 62]⟩, ⟨#[42]⟩] := by decide +kernel
abbrev wordsC : List Value := [.string ⟨#[97, 108, 108, 111, 119]⟩, .string ⟨#[42]⟩, .string ⟨#[45, 62]⟩, .string ⟨#[42]⟩]
theorem splitLine_any (w : World) (hF : Rd2 w) : Calls Tryz.prog 100 #[.string lineB, .string ⟨#[32]⟩] w fun e w' => e = .returned (.slice (some ⟨w.heap.size, 0, none⟩) 4 4) ∧ w' = w.alloc (.cells wordsC.toArray 9) := by
  obtain ⟨m, hm⟩ := hF.maxl
  refine (Tryz.strings_Split lineB ⟨#[32]⟩ m w (by decide) hm (by decide)).mono ?_
  rintro e w' ⟨rfl, rfl⟩
  rw [line_count, line_split]
  exact ⟨rfl, rfl⟩

set_option maxHeartbeats 2000000 in
theorem takeStar_any (R : Nat) (w : World) (hF : Rd2 w) (hR : Blk w R (rdC (.slice none 0 0) 0) 110) (hRN : 11 ≤ R) :
    Calls Tryz.prog 61 #[.pointer (some ⟨R, 0, none⟩), .string lineB] w (GrP R w) := by
  have HS := Lib.hid (splitLine_any w hF)
  have hL := Blk.new w wordsC 9
  have hbA : Below w.heap.size w (w.alloc (.cells wordsC.toArray 9)) := (Below.refl _ _).alloc (Nat.le_refl _) _
  have hRw := hR.lt
  have hRA := hR.below hbA
  have hFA := hF.below hbA
  have HC := Lib.hid (Tryz.slices_Contains_string w.heap.size 0 4 4 [⟨#[97, 108, 108, 111, 119]⟩, ⟨#[42]⟩, ⟨#[45, 62]⟩, ⟨#[42]⟩] ⟨#[]⟩ (w.alloc (.cells wordsC.toArray 9)) (by decide) (by decide) (fun j hj => by
    rw [Nat.zero_add]
    refine hL.cell ?_
    match j, hj with
    | 0, _ => rfl
    | 1, _ => rfl
    | 2, _ => rfl
    | 3, _ => rfl))
  rw [show Lib.containsS (List.take 4 [⟨#[97, 108, 108, 111, 119]⟩, ⟨#[42]⟩, ⟨#[45, 62]⟩, ⟨#[42]⟩]) ⟨#[]⟩ = false by decide +kernel] at HC
  have hz : (w.alloc (.cells wordsC.toArray 9)).heap.size = w.heap.size + 1 := World.size_alloc _ _
  go_enter Tryz.func61, Tryz.ntmps61
  go_wp2_with fail
  refine HS.out.mono ?_
  rintro e w1 ⟨rfl, hw1⟩
  rw [← hw1] at hL hbA hRA hFA HC hz
  clear HS hw1
  obtain ⟨g0, hg0⟩ : ∃ g, g = w.heap.size := ⟨_, rfl⟩
  rw [← hg0] at hL HC hz ⊢
  replace hg0 := Lib.hid hg0
  replace hz := Lib.hid hz
  go_wp2_with fail
  refine HC.out.mono ?_
  rintro e w2 ⟨rfl, hw2⟩
  rw [hw2]
  clear hw2
  have l0 := hL.cell (i := 0) rfl
  clear HC
  have HK := Lib.hid (comes_any R 0 2 w1 hRA (by decide))
  have hR2 := hRA.set 4 (.int .i64 2)
  replace hR2 : Blk _ R (rdC (.slice none 0 0) 2) 110 := hR2
  have hL2 := hL.other (a := ⟨R, 4, none⟩) (by have := hg0.out; simp; omega) (.int .i64 2)
  have hF2 := hFA.setCell (p := ⟨R, 4, none⟩) hRN (.int .i64 2)
  have hgS := gb_cell1U w1 R 4 (.int .i64 2)
  have HG := Lib.hid (takeGrantStar_any R g0 _ hF2 hR2 hL2.lt (hL2.cell (i := 1) rfl) (hL2.cell (i := 2) rfl) (hL2.cell (i := 3) rfl))
  have hgw : w.grownBy w1 (some R) := ⟨hbA.os, hbA.tape, hbA.output, hbA.size, fun k hk _ => hbA.block k hk⟩
  clear hR2 hL2 hF2 hFA hRA hL hF hR hbA
  go_wp2_with fail
  refine HK.out.mono ?_
  rintro e w3 ⟨rfl, hw3⟩
  rw [← hw3] at HG hgS
  have hgw3 := gb_trans hgw hgS
  clear hw3 HK hgS hgw
  go_wp2_with fail
  refine HG.out.mono ?_
  rintro e w4 ⟨rfl, g, c, s, d, hR4, hO4, h1, h2, hg4⟩
  have hgF := gb_trans hgw3 hg4
  replace hR4 := Lib.hid hR4
  replace hO4 := Lib.hid (hO4.mono hgw3.size)
  replace h1 := Lib.hid h1
  replace h2 := Lib.hid h2
  clear HG hg4 hgw3
  go_wp2_with fail
  go_ret
  exact ⟨rfl, g, c, s, d, hR4.out, hO4.out, h1.out, h2.out, hgF⟩

abbrev textB : ByteArray := ⟨#[97, 108, 108, 111, 119, 32, 42, 32, 45, 62, 32, 42, 10]⟩
theorem cutLine_any (w : World) (hF : Rd2 w) : Calls Tryz.prog 99 #[.string textB, .string ⟨#[10]⟩] w (GivesV (.tuple #[.string lineB, .string ⟨#[]⟩, .bool true]) w) := by
  have h := cutNo_any [97, 108, 108, 111, 119, 32, 42, 32, 45, 62, 32, 42, 10] [10] w hF (by decide)
  rw [show Lib.cut [97, 108, 108, 111, 119, 32, 42, 32, 45, 62, 32, 42, 10] [10] = ([97, 108, 108, 111, 119, 32, 42, 32, 45, 62, 32, 42], [], true) by decide +kernel] at h
  exact h
def GrQ (R : Nat) (w w' : World) : Prop := ∃ g c s d, Blk w' R (rdC (.slice (some ⟨g, 0, none⟩) 1 c) 2) 110 ∧ OwnE eGt 255 w.heap.size w' (.slice (some ⟨g, 0, none⟩) 1 c) [⟨s, d, 0, ⟨none, 0, 0⟩⟩] ∧ SlE eWh w' s.A s.n s.c [wStar] ∧ SlE eTg w' d.A d.n d.c [tStar] ∧ w.grownBy w' (some R)

set_option maxHeartbeats 2000000 in
theorem readLinesStar_any (R : Nat) (w : World) (hF : Rd2 w) (hR : Blk w R (rdC (.slice none 0 0) 0) 110) (hRN : 11 ≤ R) :
    Calls Tryz.prog 60 #[.string textB, .func (.func 61) #[.pointer (some ⟨R, 0, none⟩)] #[]] w fun e w' => e = .returned (.tuple #[.int .i64 0, .int .i64 0]) ∧ GrQ R w w' := by
  have HC := Lib.hid (cutLine_any w hF)
  go_enter Tryz.func60, Tryz.ntmps60
  go_wp2_with fail
  refine wp_loop_rounds 2 ?_
  rw [rounds_succ]
  go_wp2_with fail
  refine HC.out.mono ?_
  rintro e w1 ⟨rfl, hb1⟩
  have HT := Lib.hid (takeStar_any R w1 (hF.below hb1) (hR.below hb1) hRN)
  clear HC hF hR
  go_wp2_with fail
  refine HT.out.mono ?_
  rintro e w2 ⟨rfl, g, c, s, d, hR2, hO2, h1, h2, hg2⟩
  have hgF : w.grownBy w2 (some R) := gb_trans ⟨hb1.os, hb1.tape, hb1.output, hb1.size, fun k hk _ => hb1.block k hk⟩ hg2
  replace hR2 := Lib.hid hR2
  replace hO2 := Lib.hid (hO2.mono hb1.size)
  replace h1 := Lib.hid h1
  replace h2 := Lib.hid h2
  clear HT hb1 hg2
  go_wp2_with fail
  rw [rounds_succ]
  go_wp2_with fail
  go_ret2
  exact ⟨rfl, g, c, s, d, hR2.out, hO2.out, h1.out, h2.out, hgF⟩
end Go.Proofs.YtmgdkefoehlamaaGreatDoor
