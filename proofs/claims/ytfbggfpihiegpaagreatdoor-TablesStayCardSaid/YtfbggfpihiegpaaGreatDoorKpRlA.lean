/- Lists with commas: ReadList. -/
import Derived.Test.YtfbggfpihiegpaaGreatDoorKpSqA
import Derived.Test.YtfbggfpihiegpaaGreatDoorKpRvC
set_option linter.unusedVariables false
set_option linter.unusedSimpArgs false
set_option maxRecDepth 100000
namespace Go.Proofs.YtfbggfpihiegpaaGreatDoor
open Go.RowKit

attribute [local go_sem] Oper.semAt_some

theorem own_cellsU {α : Type} {E : Enc α} {t : TypeId} {B : Nat} {w : World} {v : Value} {xs : List α} (h : OwnE E t B w v xs) {k : Nat} (hk : v.ownBlock = some k) : ∃ cs, w.heap[k]? = some (.cells cs t (0, 0)) := by
  rcases h.2 with ⟨rfl, _⟩ | ⟨g, cap, cur, rfl, hg, hh, _⟩
  · cases hk
  · cases hk; exact ⟨cur, hh⟩
def RlP {α : Type} (E : Enc α) (t : TypeId) (f : List UInt8 → α) (ok : List UInt8 → Bool) (ps : List (List UInt8)) (w : World) (e : Ending) (w' : World) : Prop :=
  Below w.heap.size w w' ∧ ((ps.all ok = true ∧ ∃ v, e = .returned (.tuple #[v, .bool true]) ∧ OwnE E t w.heap.size w' v (ps.map f)) ∨ (ps.all ok = false ∧ e = .returned (.tuple #[.slice none 0 0, .bool false])))
structure RlJ {α : Type} (E : Enc α) (t lt ft bt : TypeId) (fv : Value) (c l D : Nat) (rc : Loop) (f : List UInt8 → α) (ok : List UInt8 → Bool) (w : World) (pre : List (List UInt8)) (W : World) : Prop where
  fn : Boxed W c ft fv
  rs : Boxed W (c + 1) lt (.slice none 0 0)
  rb : Boxed W (c + 1 + 1) bt (.bool false)
  row : ∃ v, Boxed W (c + 1 + 1 + 1) lt v ∧ OwnE E t (c + 1 + 1 + 1 + 1 + 1 + 1 + 1) W v (pre.map f)
  lp : W.heap[l]? = some (.loop rc)
  df : W.heap[D]? = some (.deferred (some []))
  al : pre.all ok = true
  bel : Below c w W
structure RlX (lt bt : TypeId) (c l D : Nat) (rc : Loop) (ok : List UInt8 → Bool) (w : World) (pre : List (List UInt8)) (W : World) : Prop where
  rs : Boxed W (c + 1) lt (.slice none 0 0)
  rb : Boxed W (c + 1 + 1) bt (.bool false)
  lp : W.heap[l]? = some (.loop rc)
  df : W.heap[D]? = some (.deferred (some []))
  al : pre.all ok = false
  bel : Below c w W
theorem RlJ.set {α : Type} {E : Enc α} {t lt ft bt : TypeId} {fv : Value} {c l D : Nat} {rc : Loop} {f : List UInt8 → α} {ok : List UInt8 → Bool} {w : World} {pre : List (List UInt8)} {W : World} (h : RlJ E t lt ft bt fv c l D rc f ok w pre W) (hl : c + 1 + 1 + 1 + 1 ≠ l) (hD : c + 1 + 1 + 1 + 1 ≠ D) (x : Value) : RlJ E t lt ft bt fv c l D rc f ok w pre (W.setCell ⟨c + 1 + 1 + 1 + 1, 0, none⟩ x) := by
  obtain ⟨h1, h2, h3, ⟨v, h4, h5⟩, h6, h7, h8, h9⟩ := h
  refine ⟨h1.other (by omega) x, h2.other (by omega) x, h3.other (by omega) x, ⟨v, h4.other (by omega) x, own_gbI h5 (grownBy_setCell' W (c + 1 + 1 + 1 + 1) x) (fun r e he => by have := Option.some.inj e; have := (h5.lt r he).1; omega)⟩, ?_, ?_, h8, h9.setCell (p := ⟨c + 1 + 1 + 1 + 1, 0, none⟩) (by show c ≤ c + 1 + 1 + 1 + 1; omega) x⟩
  · exact (Below.heap_setCell _ _ _ _ (by show l ≠ c + 1 + 1 + 1 + 1; omega)).trans h6
  · exact (Below.heap_setCell _ _ _ _ (by show D ≠ c + 1 + 1 + 1 + 1; omega)).trans h7

set_option maxHeartbeats 4000000 in
theorem readListWh_any (f : List UInt8 → Wh) (ok : List UInt8 → Bool) (l : List UInt8) (w : World) (hl : l.length ≤ 1000000) (hpl : (pieces l 44).length ≤ 100000)
    (HR : ∀ p ∈ pieces l 44, ∀ W, Below w.heap.size w W → Calls Tryz.prog 147 #[.string ⟨p.toArray⟩] W fun e W' => e = .returned (.tuple #[.agg (whC (f p)).toArray, .bool (ok p)]) ∧ Below W.heap.size W W') :
    Calls Tryz.prog 146 #[.string ⟨l.toArray⟩, .func (.func 147) #[] #[]] w (RlP eWh 222 f ok (pieces l 44) w) := by
  replace HR := Lib.hid HR
  replace hl := Lib.hid hl
  replace hpl := Lib.hid hpl
  refine (callsIn_wide (n := 5)).1 ?_
  refine callsIn_of_wp_marks Tryz.func146 rfl trivial ?_ rfl
  simp only [Tryz.ntmps146, List.size_toArray, List.length_cons, List.length_nil, Nat.reduceAdd, Nat.reduceSub, Array.replicate_succ, Array.replicate_zero, List.push_toArray, List.append_toArray, List.nil_append, List.cons_append]
  gi_wp2
  refine ⟨trivial, ?_⟩
  refine (callsIn_wide.2 (splitSeqFG_any 44 l _)).mono ?_
  rintro e w1 ⟨rfl, rfl⟩
  obtain ⟨c, hc⟩ : ∃ c, c = w.heap.size := ⟨_, rfl⟩
  have b0 := Boxed.new w 223 (.func (.func 147) #[] #[])
  have b1 := Boxed.new (w.alloc (.cells #[.func (.func 147) #[] #[]] 223)) 218 (.slice none 0 0)
  have b2 := Boxed.new ((w.alloc (.cells #[.func (.func 147) #[] #[]] 223)).alloc (.cells #[.slice none 0 0] 218)) 4 (.bool false)
  have b3 := Boxed.new (((w.alloc (.cells #[.func (.func 147) #[] #[]] 223)).alloc (.cells #[.slice none 0 0] 218)).alloc (.cells #[.bool false] 4)) 218 (.slice none 0 0)
  simp only [World.size_alloc, ← hc] at b0 b1 b2 b3
  obtain ⟨W0, hW0⟩ : ∃ W, W = (((w.alloc (.cells #[.func (.func 147) #[] #[]] 223)).alloc (.cells #[.slice none 0 0] 218)).alloc (.cells #[.bool false] 4)).alloc (.cells #[.slice none 0 0] 218) := ⟨_, rfl⟩
  have hz0 : W0.heap.size = c + 1 + 1 + 1 + 1 := by rw [hW0, hc]; simp
  have hb0 : Below c w W0 := by rw [hW0, hc]; exact ((((Below.refl _ _).alloc (Nat.le_refl _) _).alloc (by simp) _).alloc (by simp; omega) _).alloc (by simp; omega) _
  replace b0 : Boxed W0 c 223 (.func (.func 147) #[] #[]) := by rw [hW0]; exact ((b0.alloc _).alloc _).alloc _
  replace b1 : Boxed W0 (c + 1) 218 (.slice none 0 0) := by rw [hW0]; exact (b1.alloc _).alloc _
  replace b2 : Boxed W0 (c + 1 + 1) 4 (.bool false) := by rw [hW0]; exact b2.alloc _
  replace b3 : Boxed W0 (c + 1 + 1 + 1) 218 (.slice none 0 0) := by rw [hW0]; exact b3
  rw [← hW0]
  have bS := Boxed.new W0 9 (.string ⟨l.toArray⟩)
  have bP := Boxed.new (W0.alloc (.cells #[.string ⟨l.toArray⟩] 9)) 9 (.string ⟨#[44]⟩)
  have bV := Boxed.new ((W0.alloc (.cells #[.string ⟨l.toArray⟩] 9)).alloc (.cells #[.string ⟨#[44]⟩] 9)) 3 (.int .i64 0)
  simp only [World.size_alloc, hz0] at bS bP bV
  obtain ⟨W1, hW1⟩ : ∃ W, W = ((W0.alloc (.cells #[.string ⟨l.toArray⟩] 9)).alloc (.cells #[.string ⟨#[44]⟩] 9)).alloc (.cells #[.int .i64 0] 3) := ⟨_, rfl⟩
  have hz1 : W1.heap.size = c + 1 + 1 + 1 + 1 + 1 + 1 + 1 := by rw [hW1]; simp [hz0]
  have hB1 : Below c w W1 := by
    rw [hW1]
    exact ((hb0.alloc (by omega) _).alloc (by simp; omega) _).alloc (by simp; omega) _
  have c0 : Boxed W1 c 223 (.func (.func 147) #[] #[]) := by rw [hW1]; exact ((b0.alloc _).alloc _).alloc _
  have c1 : Boxed W1 (c + 1) 218 (.slice none 0 0) := by rw [hW1]; exact ((b1.alloc _).alloc _).alloc _
  have c2 : Boxed W1 (c + 1 + 1) 4 (.bool false) := by rw [hW1]; exact ((b2.alloc _).alloc _).alloc _
  have c3 : Boxed W1 (c + 1 + 1 + 1) 218 (.slice none 0 0) := by rw [hW1]; exact ((b3.alloc _).alloc _).alloc _
  have cS : Boxed W1 (c + 1 + 1 + 1 + 1) 9 (.string ⟨l.toArray⟩) := by rw [hW1]; exact (bS.alloc _).alloc _
  have cP : Boxed W1 (c + 1 + 1 + 1 + 1 + 1) 9 (.string ⟨#[44]⟩) := by rw [hW1]; exact bP.alloc _
  have cV : Boxed W1 (c + 1 + 1 + 1 + 1 + 1 + 1) 3 (.int .i64 0) := by rw [hW1]; exact bV
  rw [hz0]
  replace hz1 := Lib.hid hz1
  replace hc := Lib.hid hc
  clear b0 b1 b2 b3 bS bP bV hb0 hz0
  rw [← hW1]
  clear hW1 hW0
  try rw [← hc.out]
  gi_wp2
  refine range_enterI (by decide) (gf := 306) (lb := #[.pointer (some ⟨c + 1 + 1 + 1 + 1 + 1, 0, none⟩), .pointer (some ⟨c + 1 + 1 + 1 + 1, 0, none⟩), .pointer (some ⟨c + 1 + 1 + 1 + 1 + 1 + 1, 0, none⟩)]) (by simp [Act.eval]) (enters_of Tryz.func306 (by kernel_rfl) rfl) ?_
  intro fn rc hrc
  obtain ⟨D, hD⟩ : ∃ D, D = W1.heap.size := ⟨_, rfl⟩
  have hDc : D = c + 1 + 1 + 1 + 1 + 1 + 1 + 1 := by rw [hD]; exact hz1.out
  have hBe : Below c W1 ((W1.alloc (.deferred (some []))).alloc (.loop (rc .ready none))) := ((Below.refl _ W1).alloc (by omega) _).alloc (by simp; omega) _
  have hJ0 : RlJ eWh 222 218 223 4 (.func (.func 147) #[] #[]) c (D + 1) D (rc .ready none) f ok w [] ((W1.alloc (.deferred (some []))).alloc (.loop (rc .ready none))) := by
    refine ⟨(c0.alloc _).alloc _, (c1.alloc _).alloc _, (c2.alloc _).alloc _, ⟨_, (c3.alloc _).alloc _, OwnE.nil _ _⟩, ?_, ?_, rfl, hB1.trans hBe⟩
    · have := World.alloc_heap_new (W1.alloc (.deferred (some []))) (.loop (rc .ready none))
      rw [World.size_alloc, ← hD] at this
      exact this
    · rw [hD]; exact (Below.heap_alloc _ _ _ (by simp)).trans (World.alloc_heap_new W1 _)
  have eS := (cS.alloc (.deferred (some []))).alloc (.loop (rc .ready none))
  have eP := (cP.alloc (.deferred (some []))).alloc (.loop (rc .ready none))
  have eV := (cV.alloc (.deferred (some []))).alloc (.loop (rc .ready none))
  rw [← hD]
  obtain ⟨We, hWe⟩ : ∃ W, W = (W1.alloc (.deferred (some []))).alloc (.loop (rc .ready none)) := ⟨_, rfl⟩
  rw [← hWe] at hBe hJ0 eS eP eV ⊢
  have hB2 := hB1.trans hBe
  replace hDc := Lib.hid hDc
  clear hWe hBe hB1 c0 c1 c2 c3 cS cP cV hD
  refine (splitSeqG_in 44 4 (by decide) c (D + 1) (c + 1 + 1 + 1 + 1 + 1) (c + 1 + 1 + 1 + 1) (c + 1 + 1 + 1 + 1 + 1 + 1) (by omega) (by omega) l hl.out w (RlJ eWh 222 218 223 4 (.func (.func 147) #[] #[]) c (D + 1) D (rc .ready none) f ok w) (RlX 218 4 c (D + 1) D (rc .done (some .ret)) ok w) (fun pre W v h => h.set (by have := hDc.out; omega) (by have := hDc.out; omega) v) ?hY We hB2 eP eS eV hJ0).mono ?_
  case hY =>
    rintro pre p W ⟨hfn, hrs, hrb, ⟨v, hv, hown⟩, hlp, hD, hall, hB⟩ hpre hp
    have hy := run_yield (P := Tryz.prog) (args := #[.string ⟨p.toArray⟩]) hlp (by rw [hrc]; rfl)
    rw [hrc] at hy
    refine ⟨_, _, _, _, hy, roundIn_of_wpIn trivial ?_⟩
    clear hy
    replace hrc := Lib.hid hrc
    simp only [List.zip, Array.zip, List.foldl]
    have hpm : p ∈ pieces l 44 := hpre.subset (by simp)
    have hkn := Lib.hid (show (pre.map f).length + 1 ≤ 100000 by
      have := hpre.length_le
      simp at this ⊢
      have := hpl.out
      omega)
    gi_wp2
    refine ⟨_, run_beginRound hlp (by rw [hrc.out]), ?_⟩
    obtain ⟨busy, hbusy⟩ : ∃ o : Loop, o = { rc .ready none with state := .busy } := ⟨_, rfl⟩
    rw [← hbusy]
    obtain ⟨Wb, hWb⟩ : ∃ X, X = W.putObj (D + 1) (.loop busy) := ⟨_, rfl⟩
    rw [← hWb]
    have hlt1 := (Array.getElem?_eq_some_iff.1 hlp).1
    have hcl := hDc.out
    have hg2 : W.grownBy Wb (some (D + 1)) := by rw [hWb]; exact grownBy_putObj' _ _ _
    have hne : ∀ k, k ≤ D → some k ≠ some (D + 1) := fun k hk e => by have := Option.some.inj e; omega
    have hfb := hfn.kept hg2 (hne _ (by omega))
    have hrsb := hrs.kept hg2 (hne _ (by omega))
    have hrbb := hrb.kept hg2 (hne _ (by omega))
    have hvb := hv.kept hg2 (hne _ (by omega))
    have hownb : OwnE eWh 222 (c + 1 + 1 + 1 + 1 + 1 + 1 + 1) Wb v (pre.map f) := by rw [hWb]; exact ownsRow_putObj hown _ hlp rfl
    have hlb : Wb.heap[D + 1]? = some (.loop busy) := by rw [hWb]; exact World.putObj_heap_same hlt1
    have hDb : Wb.heap[D]? = some (.deferred (some [])) := by rw [hWb]; exact (World.putObj_heap_other (by omega)).trans hD
    have hszb : Wb.heap.size = W.heap.size := by rw [hWb]; simp
    have hsame : Hid (∀ k, k ≤ D → Wb.heap[k]? = W.heap[k]?) := Lib.hid fun k hk => by
      rw [hWb]; exact World.putObj_heap_other (by omega)
    have hBW : Below c W Wb := (Below.refl c W).grown hg2 (by omega) (fun k e => by have := Option.some.inj e; omega)
    have hBb : Below c w Wb := hB.trans hBW
    have HL := Lib.hid (HR.out p hpm Wb (by rw [← hc.out]; exact hBb))
    obtain ⟨b, hb⟩ : ∃ b, b = ok p := ⟨_, rfl⟩
    rw [← hb] at HL
    have hall2 := Lib.hid (show (pre ++ [p]).all ok = b by rw [List.all_append, hall, hb]; simp)
    have hmap := Lib.hid (show (pre ++ [p]).map f = pre.map f ++ [f p] by simp)
    generalize pre.map f = os at *
    generalize f p = y at *
    have cf := hfb.cell
    clear hWb hg2 hv hfn hrs hrb hown hb hB
    gi_wp2
    refine ⟨trivial, ?_⟩
    refine (CallsIn.inRound _ (callsIn_wide.2 HL.out)).mono ?_
    rintro e w3 ⟨rfl, hb3⟩
    have hs3 := hb3.size
    have kp : ∀ {B t v}, Boxed Wb B t v → Boxed w3 B t v := fun h => (hb3.block _ h.lt).trans h
    have hf3 := kp hfb
    have hrs3 := kp hrsb
    have hrb3 := kp hrbb
    have hv3 := kp hvb
    have hown3 := hownb.below hb3
    have hl3 : w3.heap[D + 1]? = some (.loop busy) := (hb3.block _ (by omega)).trans hlb
    have hD3 : w3.heap[D]? = some (.deferred (some [])) := (hb3.block _ (by omega)).trans hDb
    have hBW3 : Below c W w3 := hBW.trans (hb3.mono (by have := hvb.lt; omega))
    have hB3 : Below c w w3 := hBb.trans (hb3.mono (by have := hvb.lt; omega))
    have hsame3 : Hid (∀ k, k ≤ D → w3.heap[k]? = W.heap[k]?) := Lib.hid fun k hk => (hb3.block _ (by omega)).trans (hsame.out k hk)
    have S4 : (stT 222 (.pointer (some ⟨w3.heap.size, 0, none⟩)) (.agg (whC y).toArray)).run Tryz.prog (w3.alloc (.cells #[.int .i64 0, .string ⟨#[]⟩, .bool false, .int .u64 0, .int .u64 0, .int .i64 0] 222)) = .ok .skip (w3.alloc (.cells (whC y).toArray 222)) :=
      stT_new rowWh w3 w3.heap.size rfl zWhC (whC y) rfl (whC_len y) (whC_one y)
    have hX := Blk.new w3 (whC y) 222
    have lX := hX.ld rowWh (whC_len y)
    have hwD : D + 1 < w3.heap.size := by have := (Array.getElem?_eq_some_iff.1 hl3).1; exact this
    clear hb3 hfb hrsb hrbb hvb hownb hlb hDb hBb hsame HL kp cf hBW
    cases b
    · have r1 := hrs3.alloc (.cells (whC y).toArray 222)
      have r2 := hrb3.alloc (.cells (whC y).toArray 222)
      have r3 : (w3.alloc (.cells (whC y).toArray 222)).heap[D + 1]? = some (.loop busy) := (Below.heap_alloc _ _ _ hwD).trans hl3
      have r4 : (w3.alloc (.cells (whC y).toArray 222)).heap[D]? = some (.deferred (some [])) := (Below.heap_alloc _ _ _ (by omega)).trans hD3
      have r5 := hB3.alloc (by omega) (.cells (whC y).toArray 222)
      have r6 := hBW3.alloc (by omega) (.cells (whC y).toArray 222)
      have c1 := r1.cell
      have f1 := r1.frozen
      have c2 := r2.cell
      have f2 := r2.frozen
      have q1 := (r1.set (.slice none 0 0)).other (B' := c + 1 + 1) (by omega) (.bool false)
      have q2 := (r2.other (B' := c + 1) (by omega) (.slice none 0 0)).set (.bool false)
      have q3 : (((w3.alloc (.cells (whC y).toArray 222)).setCell ⟨c + 1, 0, none⟩ (.slice none 0 0)).setCell ⟨c + 1 + 1, 0, none⟩ (.bool false)).heap[D + 1]? = some (.loop busy) := (Below.heap_setCell _ _ _ _ (by show D + 1 ≠ c + 1 + 1; omega)).trans ((Below.heap_setCell _ _ _ _ (by show D + 1 ≠ c + 1; omega)).trans r3)
      have q4 : (((w3.alloc (.cells (whC y).toArray 222)).setCell ⟨c + 1, 0, none⟩ (.slice none 0 0)).setCell ⟨c + 1 + 1, 0, none⟩ (.bool false)).heap[D]? = some (.deferred (some [])) := (Below.heap_setCell _ _ _ _ (by show D ≠ c + 1 + 1; omega)).trans ((Below.heap_setCell _ _ _ _ (by show D ≠ c + 1; omega)).trans r4)
      have q5 := (r5.setCell (p := ⟨c + 1, 0, none⟩) (by show c ≤ c + 1; omega) (.slice none 0 0)).setCell (p := ⟨c + 1 + 1, 0, none⟩) (by show c ≤ c + 1 + 1; omega) (.bool false)
      have q6 := (r6.setCell (p := ⟨c + 1, 0, none⟩) (by show c ≤ c + 1; omega) (.slice none 0 0)).setCell (p := ⟨c + 1 + 1, 0, none⟩) (by show c ≤ c + 1 + 1; omega) (.bool false)
      clear hf3 hrs3 hrb3 hv3 hown3 hl3 hD3 hBW3 hB3 hX lX
      gi_wp2
      have hltS := (Array.getElem?_eq_some_iff.1 q3).1
      refine ⟨_, _, run_endRound (some .ret) q3, .inr ⟨rfl, ⟨?_, ?_, ?_, ?_, ?_, ?_⟩, ?_⟩⟩
      · exact q1.kept (grownBy_putObj' _ _ _) (hne _ (by omega))
      · exact q2.kept (grownBy_putObj' _ _ _) (hne _ (by omega))
      · rw [hbusy, hrc.out]; exact World.putObj_heap_same hltS
      · exact (World.putObj_heap_other (by omega)).trans q4
      · exact hall2.out
      · exact q5.grown (grownBy_putObj' _ _ _) (by have := q5.size; omega) (fun k e => by have := Option.some.inj e; omega)
      · exact q6.grown (grownBy_putObj' _ _ _) (by have := q6.size; omega) (fun k e => by have := Option.some.inj e; omega)
    · obtain ⟨A', cp, rfl, _⟩ := hown3.sl
      obtain ⟨Lo, hLo⟩ : ∃ Lo, Lo = os.length := ⟨_, rfl⟩
      rw [← hLo] at hv3 hown3 hkn
      replace hLo := Lib.hid hLo
      have r0 := hf3.alloc (.cells (whC y).toArray 222)
      have r1 := hrs3.alloc (.cells (whC y).toArray 222)
      have r2 := hrb3.alloc (.cells (whC y).toArray 222)
      have rv := hv3.alloc (.cells (whC y).toArray 222)
      have r3 : (w3.alloc (.cells (whC y).toArray 222)).heap[D + 1]? = some (.loop busy) := (Below.heap_alloc _ _ _ hwD).trans hl3
      have r4 : (w3.alloc (.cells (whC y).toArray 222)).heap[D]? = some (.deferred (some [])) := (Below.heap_alloc _ _ _ (by omega)).trans hD3
      have r5 := hB3.alloc (by omega) (.cells (whC y).toArray 222)
      have r6 := hBW3.alloc (by omega) (.cells (whC y).toArray 222)
      have hownA := hown3.below ((Below.refl _ _).alloc (Nat.le_refl _) (.cells (whC y).toArray 222))
      have hsA : Hid (∀ k, k ≤ D → (w3.alloc (.cells (whC y).toArray 222)).heap[k]? = W.heap[k]?) := Lib.hid fun k hk => (Below.heap_alloc _ _ _ (by omega)).trans (hsame3.out k hk)
      have hzA : (w3.alloc (.cells (whC y).toArray 222)).heap.size = w3.heap.size + 1 := World.size_alloc _ _
      obtain ⟨wA, hwA⟩ : ∃ wA, wA = w3.alloc (.cells (whC y).toArray 222) := ⟨_, rfl⟩
      have cv := rv.cell
      replace hzA := Lib.hid hzA
      clear hf3 hrs3 hrb3 hv3 hown3 hl3 hD3 hBW3 hB3 hX hsame3
      gi_wp2_with (gi_at_builtin; refine wpListIn_appI tyeWh rfl _ _ rfl (c + 1 + 1 + 1 + 1 + 1 + 1 + 1) _ os [y] rfl (hownA.below ((Below.refl _ _).alloc (Nat.le_refl _) _)) ⟨_, 0, none⟩ 1 1 rfl rfl ?c1 ?c2 ?c3 ?_)
      case c1 =>
        intro j u hj
        rw [Enc.cells_single] at hj
        have := (Blk.new (w3.alloc (.cells (whC y).toArray 222)) (whC y) 222).cell (i := j) hj
        rw [World.size_alloc] at this
        rw [Addr.add_lit, Nat.zero_add]
        exact this
      case c2 => have := hkn.out; have := hLo.out; simp only [List.length_singleton]; omega
      case c3 => simp; omega
      intro v' w5 hown5 hg5 hd5
      have ko : ∀ k, k < c + 1 + 1 + 1 + 1 + 1 + 1 + 1 → some k ≠ (Value.slice A' Lo cp).ownBlock := fun k hk e => by have := (hownA.lt _ e.symm).1; omega
      rw [← hwA] at r0 r1 r2 rv r3 r4 r5 r6 hownA hsA hg5 hzA
      have hzA' := hzA.out
      have kp : ∀ {B t v}, B < c + 1 + 1 + 1 + 1 + 1 + 1 + 1 → Boxed wA B t v → Boxed w5 B t v := fun hk h => (hg5.block _ (by have := h.lt; simp; omega) (ko _ hk)).trans ((Below.heap_alloc _ _ _ h.lt).trans h)
      have s0 := kp (by omega) r0
      have s1 := kp (by omega) r1
      have s2 := kp (by omega) r2
      have sv := kp (by omega) rv
      have s3 : w5.heap[D + 1]? = some (.loop busy) := (hg5.block _ (by simp; omega) (fun e => by
        obtain ⟨cs, hcs⟩ := own_cellsU hownA e.symm
        rw [r3] at hcs; cases hcs)).trans ((Below.heap_alloc _ _ _ (by omega)).trans r3)
      have s4 : w5.heap[D]? = some (.deferred (some [])) := (hg5.block _ (by simp; omega) (fun e => by
        obtain ⟨cs, hcs⟩ := own_cellsU hownA e.symm
        rw [r4] at hcs; cases hcs)).trans ((Below.heap_alloc _ _ _ (by omega)).trans r4)
      have hfw : ∀ k, (Value.slice A' Lo cp).ownBlock = some k → c ≤ k := fun k h => by have := (hownA.lt k h).1; omega
      have s5 := (r5.alloc (by omega) (.cells (whC y).toArray 222)).grown hg5 (by simp; omega) hfw
      have s6 := (r6.alloc (by omega) (.cells (whC y).toArray 222)).grown hg5 (by simp; omega) hfw
      have s7 : Hid (∀ k, k < c + 1 + 1 + 1 + 1 + 1 + 1 + 1 → w5.heap[k]? = W.heap[k]?) := Lib.hid fun k hk => (hg5.block _ (by simp; omega) (ko _ hk)).trans ((Below.heap_alloc _ _ _ (by omega)).trans (hsA.out k (by omega)))
      have hf5 := sv.frozen
      have hc5 := sv.cell
      obtain ⟨g', cp', hv', _⟩ := hown5.form (by simp)
      obtain ⟨L, hL⟩ : ∃ L, L = (os ++ [y]).length := ⟨_, rfl⟩
      rw [← hL] at hv'
      subst hv'
      clear hL
      replace hown5 := Lib.hid hown5
      clear hg5 hd5 hownA r0 r1 r2 rv r3 r4 r5 r6 hsA cv kp ko hfw S4 lX
      gi_wp2
      have q0 := s0.other (B' := c + 1 + 1 + 1) (by omega) (.slice (some ⟨g', 0, none⟩) L cp')
      have q1 := s1.other (B' := c + 1 + 1 + 1) (by omega) (.slice (some ⟨g', 0, none⟩) L cp')
      have q2 := s2.other (B' := c + 1 + 1 + 1) (by omega) (.slice (some ⟨g', 0, none⟩) L cp')
      have qv := sv.set (.slice (some ⟨g', 0, none⟩) L cp')
      have q3 : (w5.setCell ⟨c + 1 + 1 + 1, 0, none⟩ (.slice (some ⟨g', 0, none⟩) L cp')).heap[D + 1]? = some (.loop busy) := (Below.heap_setCell _ _ _ _ (by show D + 1 ≠ c + 1 + 1 + 1; omega)).trans s3
      have q4 : (w5.setCell ⟨c + 1 + 1 + 1, 0, none⟩ (.slice (some ⟨g', 0, none⟩) L cp')).heap[D]? = some (.deferred (some [])) := (Below.heap_setCell _ _ _ _ (by show D ≠ c + 1 + 1 + 1; omega)).trans s4
      have q5 := s5.setCell (p := ⟨c + 1 + 1 + 1, 0, none⟩) (by show c ≤ c + 1 + 1 + 1; omega) (.slice (some ⟨g', 0, none⟩) L cp')
      have q6 := s6.setCell (p := ⟨c + 1 + 1 + 1, 0, none⟩) (by show c ≤ c + 1 + 1 + 1; omega) (.slice (some ⟨g', 0, none⟩) L cp')
      have qo : OwnE eWh 222 (c + 1 + 1 + 1 + 1 + 1 + 1 + 1) (w5.setCell ⟨c + 1 + 1 + 1, 0, none⟩ (.slice (some ⟨g', 0, none⟩) L cp')) (.slice (some ⟨g', 0, none⟩) L cp') (os ++ [y]) := own_gbI hown5.out (grownBy_setCell' w5 (c + 1 + 1 + 1) (.slice (some ⟨g', 0, none⟩) L cp')) (fun r e he => by have := Option.some.inj e; have := (hown5.out.lt r he).1; omega)
      have q7 : ∀ k, k = c + 1 + 1 + 1 + 1 + 1 ∨ k = c + 1 + 1 + 1 + 1 ∨ k = c + 1 + 1 + 1 + 1 + 1 + 1 → (w5.setCell ⟨c + 1 + 1 + 1, 0, none⟩ (.slice (some ⟨g', 0, none⟩) L cp')).heap[k]? = W.heap[k]? := fun k hk => (Below.heap_setCell _ _ _ _ (by show k ≠ c + 1 + 1 + 1; omega)).trans (s7.out k (by omega))
      have hltS := (Array.getElem?_eq_some_iff.1 q3).1
      refine ⟨_, _, run_endRound none q3, .inl ⟨rfl, ⟨?_, ?_, ?_, ⟨.slice (some ⟨g', 0, none⟩) L cp', ?_, ?_⟩, ?_, ?_, ?_, ?_⟩, ?_, ?_⟩⟩
      · exact q0.kept (grownBy_putObj' _ _ _) (hne _ (by omega))
      · exact q1.kept (grownBy_putObj' _ _ _) (hne _ (by omega))
      · exact q2.kept (grownBy_putObj' _ _ _) (hne _ (by omega))
      · exact qv.kept (grownBy_putObj' _ _ _) (hne _ (by omega))
      · rw [hmap.out]; exact ownsRow_putObj qo _ q3 rfl
      · rw [hbusy, hrc.out]; exact World.putObj_heap_same hltS
      · exact (World.putObj_heap_other (by omega)).trans q4
      · exact hall2.out
      · exact q5.grown (grownBy_putObj' _ _ _) (by have := q5.size; omega) (fun k e => by have := Option.some.inj e; omega)
      · exact ⟨(World.putObj_heap_other (by omega)).trans (q7 _ (.inl rfl)), (World.putObj_heap_other (by omega)).trans (q7 _ (.inr (.inl rfl))), (World.putObj_heap_other (by omega)).trans (q7 _ (.inr (.inr rfl)))⟩
      · exact q6.grown (grownBy_putObj' _ _ _) (by have := q6.size; omega) (fun k e => by have := Option.some.inj e; omega)
  · rintro e W2 ⟨⟨v0, rfl⟩, hor, hBel⟩
    have hcl := hDc.out
    have hne : ∀ k, k ≤ D → some k ≠ some (D + 1) := fun k hk e => by have := Option.some.inj e; omega
    have hne2 : ∀ k, k < D → some k ≠ some D := fun k hk e => by have := Option.some.inj e; omega
    rcases hor with ⟨hfn, hrs, hrb, ⟨v, hv, hown⟩, hlp, hD, hall, hB⟩ | ⟨pre, hpre, hrs, hrb, hlp, hD, hall, hB⟩
    · have hel := run_endLoop (P := Tryz.prog) hlp (by rw [hrc]; simp)
      obtain ⟨W3, hW3⟩ : ∃ X, X = W2.putObj (D + 1) (.loop { rc .ready none with state := .exhausted }) := ⟨_, rfl⟩
      rw [← hW3] at hel
      refine ⟨none, W3, by rw [hel, hrc], ?_⟩
      have hg := grownBy_putObj' W2 (D + 1) (.loop { rc .ready none with state := .exhausted })
      rw [← hW3] at hg
      have t1 := hrs.kept hg (hne _ (by omega))
      have t2 := hrb.kept hg (hne _ (by omega))
      have tv := hv.kept hg (hne _ (by omega))
      have tow : OwnE eWh 222 (c + 1 + 1 + 1 + 1 + 1 + 1 + 1) W3 v ((pieces l 44).map f) := by rw [hW3]; exact ownsRow_putObj hown _ hlp rfl
      have tD : W3.heap[D]? = some (.deferred (some [])) := by rw [hW3]; exact (World.putObj_heap_other (by omega)).trans hD
      have tB : Below c w W3 := hB.grown hg (by have := hv.lt; omega) (fun k e => by have := Option.some.inj e; omega)
      obtain ⟨A', cp, rfl, _⟩ := tow.sl
      obtain ⟨L, hL⟩ : ∃ L, L = ((pieces l 44).map f).length := ⟨_, rfl⟩
      rw [← hL] at tv tow
      have cv := tv.cell
      have c1 := t1.cell
      have f1 := t1.frozen
      have c2 := t2.cell
      have f2 := t2.frozen
      replace hL := Lib.hid hL
      have u1 := (t1.set (.slice A' L cp)).other (B' := c + 1 + 1) (by omega) (.bool true)
      have u2 := (t2.other (B' := c + 1) (by omega) (.slice A' L cp)).set (.bool true)
      have uD : ((W3.setCell ⟨c + 1, 0, none⟩ (.slice A' L cp)).setCell ⟨c + 1 + 1, 0, none⟩ (.bool true)).heap[D]? = some (.deferred (some [])) := (Below.heap_setCell _ _ _ _ (by show D ≠ c + 1 + 1; omega)).trans ((Below.heap_setCell _ _ _ _ (by show D ≠ c + 1; omega)).trans tD)
      have uB := (tB.setCell (p := ⟨c + 1, 0, none⟩) (by show c ≤ c + 1; omega) (.slice A' L cp)).setCell (p := ⟨c + 1 + 1, 0, none⟩) (by show c ≤ c + 1 + 1; omega) (.bool true)
      have uo := own_gbI (own_gbI tow (grownBy_setCell' W3 (c + 1) (.slice A' L cp)) (fun r e he => by have := Option.some.inj e; have := (tow.lt r he).1; omega)) (grownBy_setCell' _ (c + 1 + 1) (.bool true)) (fun r e he => by have := Option.some.inj e; have := (tow.lt r he).1; omega)
      clear hfn hrs hrb hv hown hlp hD hg hW3 hel hBel t1 t2 tv tow tD tB hB
      gi_wp2
      have g1 := (u1.kept (grownBy_putObj' _ D (.deferred none)) (hne2 _ (by omega))).cell
      have g2 := (u2.kept (grownBy_putObj' _ D (.deferred none)) (hne2 _ (by omega))).cell
      have ho2 := ownsRow_putObj uo (.deferred none) uD rfl
      have hBf := uB.grown (grownBy_putObj' _ D (.deferred none)) (by have := u1.lt; omega) (fun k e => by have := Option.some.inj e; omega)
      rw [hcl] at uD g1 g2 hBf ho2
      refine ⟨by simp, .inl ⟨_, _, rfl, run_takeDeferred uD, ?_⟩⟩
      refine ⟨.tuple #[.slice A' L cp, .bool true], ?_, by rw [← hc.out]; exact hBf, .inl ⟨hall, _, rfl, OwnE.mono ho2 (by have := hc.out; omega)⟩⟩
      simp [results, Tryz.results146, go_sem, g1, g2]
    · have hel := run_endLoop (P := Tryz.prog) hlp (by rw [hrc]; simp)
      obtain ⟨W3, hW3⟩ : ∃ X, X = W2.putObj (D + 1) (.loop { rc .done (some .ret) with state := .exhausted }) := ⟨_, rfl⟩
      rw [← hW3] at hel
      refine ⟨some .ret, W3, by rw [hel, hrc], ?_⟩
      have hg := grownBy_putObj' W2 (D + 1) (.loop { rc .done (some .ret) with state := .exhausted })
      rw [← hW3] at hg
      have t1 := hrs.kept hg (hne _ (by omega))
      have t2 := hrb.kept hg (hne _ (by omega))
      have tD : W3.heap[D]? = some (.deferred (some [])) := by rw [hW3]; exact (World.putObj_heap_other (by omega)).trans hD
      have tB : Below c w W3 := hB.grown hg (by have := hrs.lt; omega) (fun k e => by have := Option.some.inj e; omega)
      have hallF : (pieces l 44).all ok = false := by
        obtain ⟨rest, hr⟩ := hpre
        rw [← hr, List.all_append, hall, Bool.false_and]
      clear hrs hrb hlp hD hg hW3 hel hBel hall hB
      show Code.wpIn _ _ _ _ _ _ _
      gi_wp2
      have g1 := (t1.kept (grownBy_putObj' _ D (.deferred none)) (hne2 _ (by omega))).cell
      have g2 := (t2.kept (grownBy_putObj' _ D (.deferred none)) (hne2 _ (by omega))).cell
      have hBf := tB.grown (grownBy_putObj' _ D (.deferred none)) (by have := t1.lt; omega) (fun k e => by have := Option.some.inj e; omega)
      rw [hcl] at tD g1 g2 hBf
      refine ⟨by simp, .inl ⟨_, _, rfl, run_takeDeferred tD, ?_⟩⟩
      refine ⟨.tuple #[.slice none 0 0, .bool false], ?_, by rw [← hc.out]; exact hBf, .inr ⟨hallF, rfl⟩⟩
      simp [results, Tryz.results146, go_sem, g1, g2]
end Go.Proofs.YtfbggfpihiegpaaGreatDoor
