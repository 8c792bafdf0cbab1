/- Reports that are put together: SortedStableFunc. -/
import Derived.Test.YtfiocnjogbpgoaaGreatDoorKkThC
import Derived.Test.YtfiocnjogbpgoaaGreatDoorKkRqG
import Derived.Test.YtfiocnjogbpgoaaGreatDoorKkMdD
import Derived.Test.YtfiocnjogbpgoaaGreatDoorKkShelf
namespace Go.Proofs.YtfiocnjogbpgoaaGreatDoor
open Go.RowKit
set_option linter.unusedVariables false
set_option linter.unusedSimpArgs false

set_option maxHeartbeats 4000000 in
set_option maxRecDepth 100000 in
theorem mapThin_any (bs : Nat) (f : Rp → Rp) (A : Option Addr) (n cap : Nat) (zs : List Rp) (w : World) (HF : ∀ x ∈ zs, ∀ W, Below w.heap.size w W → Calls Tryz.prog 64 #[rpA x, .pointer (some ⟨bs, 0, none⟩)] W (GivesV (rpA (f x)) W)) (hS : SlE eRp w A n cap zs) (hn : n ≤ 3000) :
    Calls Tryz.prog 113 #[.slice A n cap, .func (.func 64) #[] #[.pointer (some ⟨bs, 0, none⟩)]] w fun e w' => (∃ A' cap', e = .returned (.slice A' n cap') ∧ OwnE eRp 56 w.heap.size w' (.slice A' n cap') (zs.map f)) ∧ Below w.heap.size w w' := by
  obtain ⟨i0, hi0, hz0, hz1, hz2⟩ := info_parts infoRp
  have hl := Lib.hid hS.1
  replace HF := Lib.hid HF
  replace hS := Lib.hid hS
  go_enter Tryz.func113, Tryz.ntmps113
  go_wp2_with (at_make; refine wpList_make_own _ rfl _ _ 49 rfl w.heap.size 56 i0 zRp 14 Tryz.underlying49 hi0 hz0 hz1 .i64 .i64 _ n rfl rfl rfl ?c1 ?c2 (Nat.le_refl _) ?_)
  case c1 => rw [hz2]; omega
  case c2 => unfold maxLen; omega
  intro w1 hown hg1
  have hbw : Below w.heap.size w w1 := (Below.refl _ _).grown hg1 (Nat.le_refl _) (fun k h => by cases h)
  replace hown : OwnE eRp 56 w.heap.size w1 (.slice (some ⟨w.heap.size, 0, none⟩) 0 n) [] := hown
  clear hg1
  go_wp2_with fail
  go_loopw [5, 13] (fun vo vi wr => ∃ k : Nat, k ≤ n ∧ vi = .int .i64 k ∧ OwnE eRp 56 w.heap.size wr vo ((zs.take k).map f) ∧ Below w.heap.size w wr) (fun _ vi _ => n - (intOf vi).toNat)
  case atStart => exact ⟨0, Nat.zero_le _, rfl, hown, hbw⟩
  case round =>
    clear hown hbw
    obtain ⟨k, hk, rfl, hown, hbw⟩ := hrel
    by_cases hlt : k < n
    · obtain ⟨z, hzk⟩ : ∃ z, zs[k]? = some z := ⟨zs[k]'(by have := hl.out; omega), List.getElem?_eq_getElem _⟩
      obtain ⟨g, off, hA, hS2⟩ : ∃ g off, A = some ⟨g, off, none⟩ ∧ SlE eRp wr (some ⟨g, off, none⟩) n cap zs := by
        have h := hS.out.below hbw
        rcases h.2.2.2 with h0 | ⟨g, off, hA, _⟩
        · omega
        · exact ⟨g, off, hA, hA ▸ h⟩
      subst hA
      have l1 : (ldT 56 (.pointer (some ⟨g, off + k * 14, none⟩))).run Tryz.prog wr = .ok (.value (rpA z)) wr := hS2.ld rowRp hzk
      have hcap := hS2.2.1
      have hlt' : (k : Int) < n := by omega
      have S4 : (stT 56 (.pointer (some ⟨wr.heap.size, 0, none⟩)) (rpA z)).run Tryz.prog (wr.alloc (.cells #[.string ⟨#[]⟩, .int .i64 0, .bool false, .int .i64 0, .bool false, .int .u64 0, .int .u64 0, .bool false, .int .u64 0, .int .u64 0, .int .i64 0, .int .i64 0, .int .i64 0, .int .i64 0] 56)) = .ok .skip (wr.alloc (.cells (rpC z).toArray 56)) :=
        stT_new rowRp wr wr.heap.size rfl zRpC (rpC z) rfl (rpC_len z) (rpC_one z)
      have hbs := hbw.size
      have hbA : Below w.heap.size w (wr.alloc (.cells (rpC z).toArray 56)) := hbw.alloc hbs _
      have hQ := (Blk.new wr (rpC z) 56).ld rowRp (rpC_len z)
      have HD1 := Lib.hid (HF.out z (List.mem_of_getElem? hzk) _ hbA)
      have hownA := hown.below ((Below.refl _ _).alloc (Nat.le_refl _) (.cells (rpC z).toArray 56))
      have hstep := Lib.hid (show (zs.take (k + 1)).map f = (zs.take k).map f ++ [f z] by rw [List.take_add_one, hzk, List.map_append]; rfl)
      have hpl := Lib.hid (show ((zs.take k).map f).length = k by rw [List.length_map, List.length_take]; have := hl.out; omega)
      generalize (zs.take k).map f = pre at *
      generalize f z = d at *
      clear hzk hS2 hown
      go_wp2_with fail
      refine HD1.out.mono ?_
      rintro e w2 ⟨rfl, hb2⟩
      have hbw2 := hbA.trans (hb2.mono hbA.size)
      have hown2 := hownA.below hb2
      have hbs2 := hbw2.size
      clear HD1 hb2 hbA hownA l1 S4 hQ hbw hbs
      go_wp2_with (at_builtin; refine wpList_app tyeRp rfl _ _ rfl w.heap.size _ pre [d] rfl (hown2.below ((Below.refl _ _).alloc (Nat.le_refl _) _)) ⟨_, 0, none⟩ 1 1 rfl rfl ?d1 ?d2 ?d3 ?_)
      case d1 => exact cell_row_at _ _ _ _ rfl
      case d2 => have := hpl.out; simp only [List.length_singleton]; omega
      case d3 => simp; omega
      intro v' w3 hown3 hg3 hd3
      have hb3 : Below w.heap.size w w3 := (hbw2.alloc hbs2 _).grown hg3 (by simp; omega) (fun k h => (hown2.lt k h).1)
      clear hg3 hd3 hown2 hbw2
      replace hown3 := Lib.hid hown3
      replace hb3 := Lib.hid hb3
      go_wp2_with fail
      go_roundw
      case rel => exact ⟨k + 1, by omega, by go_num, by rw [hstep.out]; exact hown3.out, hb3.out⟩
      case measure => simp [intOf]; omega
    · have hkn : k = n := by omega
      subst hkn
      rw [hl.out, List.take_length] at hown
      have hln := Lib.hid (show (zs.map f).length = k by rw [List.length_map]; exact hl.out.symm)
      obtain ⟨A', cap', hv, _⟩ := hown.sl
      rw [hln.out] at hv
      subst hv
      replace hown := Lib.hid hown
      go_wp2_with fail
      go_ret
      exact ⟨⟨A', cap', rfl, hown.out⟩, hbw⟩

end Go.Proofs.YtfiocnjogbpgoaaGreatDoor
namespace Go.Proofs.YtfiocnjogbpgoaaGreatDoor
open Go.RowKit
set_option linter.unusedVariables false
set_option linter.unusedSimpArgs false

attribute [local go_sem] Oper.semAt_some

theorem valuesR_any (A : Option Addr) (n cap : Nat) (w : World) :
    Calls Tryz.prog 174 #[.slice A n cap] w fun e w' => e = .returned (.func (.func 253) #[] #[.pointer (some ⟨w.heap.size, 0, none⟩)]) ∧ w' = w.alloc (.cells #[.slice A n cap] 49) := by
  go_enter Tryz.func174, Tryz.ntmps174
  go_wp2_with fail
  go_ret
  exact ⟨rfl, rfl⟩

set_option maxRecDepth 100000 in
set_option maxHeartbeats 4000000 in
theorem valuesR1_in (N : Nat) (hN : 1 ≤ N) (l bs : Nat) (A : Option Addr) (n cap : Nat) (zs : List Rp) (hn : n ≤ 100000) (hnl : n = zs.length)
    (J : Nat → World → Prop)
    (hY : ∀ (k : Nat) z W, zs[k]? = some z → J k W → YieldAt Fence.wide (N - 1) Tryz.prog l #[rpA z] W fun e W' => e = .returned (.bool true) ∧ J (k + 1) W')
    (hR : ∀ k W, J k W → SlE eRp W A n cap zs) (hAl : ∀ k W o, J k W → J k (W.alloc o))
    (W : World) (hbs : Boxed W bs 49 (.slice A n cap)) (hJ : J 0 W) :
    CallsIn Fence.wide N Tryz.prog 253 #[.func (.yield l) #[] #[], .pointer (some ⟨bs, 0, none⟩)] W fun e W' => (∃ v, e = .returned v) ∧ J n W' := by
  replace hY := Lib.hid hY
  replace hR := Lib.hid hR
  replace hAl := Lib.hid hAl
  refine callsIn_of_wp Tryz.func253 rfl trivial ?_ rfl
  simp only [Tryz.ntmps253, List.size_toArray, List.length_cons, List.length_nil, Nat.reduceAdd, Nat.reduceSub, Array.replicate_succ, Array.replicate_zero, List.push_toArray, List.append_toArray, List.nil_append, List.cons_append]
  have q1 := hbs.cell
  replace hnl := Lib.hid hnl
  gi_wp2
  gi_loopw [7] (fun i wr => ∃ k : Nat, k ≤ n ∧ i = .int .i64 (k : Int) ∧ J k wr) (fun i _ => n - (intOf i).toNat)
  case atStart => exact ⟨0, Nat.zero_le _, rfl, hJ⟩
  case round =>
    clear hbs q1 hJ
    obtain ⟨k, hk, rfl, hJ⟩ := hrel
    by_cases hlt : k < n
    · obtain ⟨z, hz⟩ : ∃ z, zs[k]? = some z := ⟨zs[k]'(by have := hnl.out; omega), List.getElem?_eq_getElem _⟩
      have hS := hR.out _ _ hJ
      obtain ⟨g, off, hA, hS2⟩ : ∃ g off, A = some ⟨g, off, none⟩ ∧ SlE eRp wr (some ⟨g, off, none⟩) n cap zs := by
        rcases hS.2.2.2 with h0 | ⟨g, off, hA, _⟩
        · omega
        · exact ⟨g, off, hA, hA ▸ hS⟩
      subst hA
      have l1 : (ldT 56 (.pointer (some ⟨g, off + k * 14, none⟩))).run Tryz.prog wr = .ok (.value (rpA z)) wr := hS2.ld rowRp hz
      have hcap := hS2.2.1
      have S4 : (stT 56 (.pointer (some ⟨wr.heap.size, 0, none⟩)) (rpA z)).run Tryz.prog (wr.alloc (.cells #[.string ⟨#[]⟩, .int .i64 0, .bool false, .int .i64 0, .bool false, .int .u64 0, .int .u64 0, .bool false, .int .u64 0, .int .u64 0, .int .i64 0, .int .i64 0, .int .i64 0, .int .i64 0] 56)) = .ok .skip (wr.alloc (.cells (rpC z).toArray 56)) :=
        stT_new rowRp wr wr.heap.size rfl zRpC (rpC z) rfl (rpC_len z) (rpC_one z)
      have hQ := (Blk.new wr (rpC z) 56).ld rowRp (rpC_len z)
      clear hS2
      have hkm : (k : Int) < n := by omega
      obtain ⟨fn, tmps, assign, body, hy, hRr⟩ := hY.out k z _ hz (hAl.out k wr (.cells (rpC z).toArray 56) hJ)
      have hk0 := Lib.hid hk
      clear hJ hS hk hz
      gi_wp2
      refine hRr.mono ?_
      rintro e W3 ⟨rfl, hJ3⟩
      gi_wp2
      go_roundw
      case rel => exact ⟨k + 1, by have := hk0.out; omega, by go_num, hJ3⟩
      case measure => simp [intOf]; omega
    · have hkn : k = n := by omega
      subst hkn
      gi_wp2
      go_end0
      exact ⟨⟨_, rfl⟩, hJ⟩

/-- What AppendSeq's loop says of its own state: the row so far. -/
def SeqR (w : World) (zs : List Rp) (c l D : Nat) (rc : Loop) (k : Nat) (W : World) : Prop :=
  ∃ v, Boxed W c 49 v ∧ OwnE eRp 56 (c + 1) W v (zs.take k) ∧ W.heap[l]? = some (.loop rc) ∧ W.heap[D]? = some (.deferred (some [])) ∧ Below c w W

set_option maxRecDepth 100000 in
set_option maxHeartbeats 4000000 in
theorem appendSeqR_any (bs : Nat) (A : Option Addr) (n cap : Nat) (zs : List Rp) (w : World) (hS : SlE eRp w A n cap zs) (hbs : Boxed w bs 49 (.slice A n cap)) (hn : n ≤ 100000) :
    Calls Tryz.prog 321 #[.slice none 0 0, .func (.func 253) #[] #[.pointer (some ⟨bs, 0, none⟩)]] w fun e w' => (∃ v, e = .returned v ∧ OwnE eRp 56 w.heap.size w' v zs) ∧ Below w.heap.size w w' := by
  refine (callsIn_wide (n := 5)).1 ?_
  refine callsIn_of_wp_marks Tryz.func321 rfl trivial ?_ rfl
  simp only [Tryz.ntmps321, List.size_toArray, List.length_cons, List.length_nil, Nat.reduceAdd, Nat.reduceSub, Array.replicate_succ, Array.replicate_zero, List.push_toArray, List.append_toArray, List.nil_append, List.cons_append]
  obtain ⟨c, hc⟩ : ∃ c, c = w.heap.size := ⟨_, rfl⟩
  obtain ⟨W0, hW0⟩ : ∃ W, W = w.alloc (.cells #[.slice none 0 0] 49) := ⟨_, rfl⟩
  have bO : Boxed W0 c 49 (.slice none 0 0) := by rw [hW0, hc]; exact Boxed.new w _ _
  have hz : W0.heap.size = c + 1 := by rw [hW0, hc]; simp
  have hB0 : Below c w W0 := by rw [hW0, hc]; exact (Below.refl _ _).alloc (Nat.le_refl _) _
  have hS0 := hS.below (show Below w.heap.size w W0 by rw [← hc]; exact hB0)
  have bs0 : Boxed W0 bs 49 (.slice A n cap) := (hB0.block bs (by rw [hc]; exact hbs.lt)).trans hbs
  have hbc : bs < c := by rw [hc]; exact hbs.lt
  replace hz := Lib.hid hz
  have hc' := Lib.hid hc
  replace hbs := Lib.hid hbs
  replace hS := Lib.hid hS
  rw [← hc]
  gi_wp2
  rw [← hW0]
  clear hW0
  rw [← hc]
  clear hc
  refine range_enterI (by decide) (gf := 253) (lb := #[.pointer (some ⟨bs, 0, none⟩)]) (by simp [Act.eval]) (enters_of Tryz.func253 (by kernel_rfl) rfl) ?_
  intro fn rc hrc
  obtain ⟨D, hD⟩ : ∃ D, D = W0.heap.size := ⟨_, rfl⟩
  have hDc : D = c + 1 := by rw [hD]; exact hz.out
  have hJ0 : SeqR w zs c (D + 1) D (rc .ready none) 0 ((W0.alloc (.deferred (some []))).alloc (.loop (rc .ready none))) := by
    refine ⟨_, (bO.alloc _).alloc _, by rw [List.take_zero]; exact OwnE.nil _ _, ?_, ?_, (hB0.alloc (by omega) _).alloc (by simp; omega) _⟩
    · have := World.alloc_heap_new (W0.alloc (.deferred (some []))) (.loop (rc .ready none))
      rw [World.size_alloc, ← hD] at this
      exact this
    · rw [hD]; exact (Below.heap_alloc _ _ _ (by simp)).trans (World.alloc_heap_new W0 _)
  have bsE : Boxed ((W0.alloc (.deferred (some []))).alloc (.loop (rc .ready none))) bs 49 (.slice A n cap) := (bs0.alloc _).alloc _
  rw [← hD]
  obtain ⟨We, hWe⟩ : ∃ W, W = (W0.alloc (.deferred (some []))).alloc (.loop (rc .ready none)) := ⟨_, rfl⟩
  rw [← hWe] at hJ0 bsE ⊢
  replace hDc := Lib.hid hDc
  clear hWe hB0 bO hS0 bs0 hD
  refine (valuesR1_in 4 (by decide) (D + 1) bs A n cap zs hn hS.out.1 (SeqR w zs c (D + 1) D (rc .ready none)) ?hY ?hR ?hAl We bsE hJ0).mono ?_
  case hAl =>
    rintro k W o ⟨v, hv, hown, hl, hD, hB⟩
    have hvl := hv.lt
    have h1 := (Array.getElem?_eq_some_iff.1 hl).1
    have h2 := (Array.getElem?_eq_some_iff.1 hD).1
    exact ⟨v, hv.alloc o, hown.below ((Below.refl _ _).alloc (Nat.le_refl _) o), (Below.heap_alloc _ _ _ h1).trans hl, (Below.heap_alloc _ _ _ h2).trans hD, hB.alloc (by omega) o⟩
  case hR =>
    rintro k W ⟨v, _, _, _, _, hB⟩
    exact hS.out.below (by rw [← hc'.out]; exact hB)
  case hY =>
    rintro k z W hzk ⟨v, hv, hown, hl, hD, hB⟩
    have hy := run_yield (P := Tryz.prog) (args := #[rpA z]) hl (by rw [hrc]; rfl)
    rw [hrc] at hy
    refine ⟨_, _, _, _, hy, roundIn_of_wpIn trivial ?_⟩
    clear hy
    replace hrc := Lib.hid hrc
    simp only [List.zip, Array.zip, List.foldl]
    have htk := Lib.hid (show zs.take (k + 1) = zs.take k ++ [z] by rw [List.take_add_one, hzk]; rfl)
    have hkn := Lib.hid (show (zs.take k).length + 1 ≤ 100000 by
      have := (List.getElem?_eq_some_iff.1 hzk).1
      have := hS.out.1
      rw [List.length_take]; omega)
    obtain ⟨pre, hpre⟩ : ∃ pre, pre = zs.take k := ⟨_, rfl⟩
    rw [← hpre] at htk hkn hown
    clear hpre
    have S5 : (stT 56 (.pointer (some ⟨W.heap.size, 0, none⟩)) (rpA z)).run Tryz.prog (W.alloc (.cells #[.string ⟨#[]⟩, .int .i64 0, .bool false, .int .i64 0, .bool false, .int .u64 0, .int .u64 0, .bool false, .int .u64 0, .int .u64 0, .int .i64 0, .int .i64 0, .int .i64 0, .int .i64 0] 56)) = .ok .skip (W.alloc (.cells (rpC z).toArray 56)) :=
      stT_new rowRp W W.heap.size rfl zRpC (rpC z) rfl (rpC_len z) (rpC_one z)
    have hBv := Blk.new W (rpC z) 56
    have hlt0 := (Array.getElem?_eq_some_iff.1 hl).1
    have hltD := (Array.getElem?_eq_some_iff.1 hD).1
    have hvl0 := hv.lt
    replace hv := hv.alloc (.cells (rpC z).toArray 56)
    replace hown := hown.below ((Below.refl _ _).alloc (Nat.le_refl _) (.cells (rpC z).toArray 56))
    replace hl : (W.alloc (.cells (rpC z).toArray 56)).heap[D + 1]? = _ := (Below.heap_alloc _ _ _ hlt0).trans hl
    replace hD : (W.alloc (.cells (rpC z).toArray 56)).heap[D]? = _ := (Below.heap_alloc _ _ _ hltD).trans hD
    replace hB := hB.alloc (by omega) (.cells (rpC z).toArray 56)
    have hpvl : D + 1 < W.heap.size := hlt0
    gi_wp2
    obtain ⟨Wv, hWv⟩ : ∃ X, X = W.alloc (.cells (rpC z).toArray 56) := ⟨_, rfl⟩
    rw [← hWv] at hv hown hl hD hB hBv ⊢
    generalize W.heap.size = pv at *
    clear hWv S5 hlt0 hltD hvl0
    refine ⟨_, run_beginRound hl (by rw [hrc.out]), ?_⟩
    obtain ⟨busy, hbusy⟩ : ∃ o : Loop, o = { rc .ready none with state := .busy } := ⟨_, rfl⟩
    rw [← hbusy]
    obtain ⟨Wb, hWb⟩ : ∃ X, X = Wv.putObj (D + 1) (.loop busy) := ⟨_, rfl⟩
    rw [← hWb]
    have hlt1 := (Array.getElem?_eq_some_iff.1 hl).1
    have hcl := hDc.out
    have hg2 : Wv.grownBy Wb (some (D + 1)) := by rw [hWb]; exact grownBy_putObj' _ _ _
    have hvb : Boxed Wb c 49 v := hv.kept hg2 (by intro e; have := Option.some.inj e; omega)
    have hownb : OwnE eRp 56 (c + 1) Wb v pre := by rw [hWb]; exact ownsRow_putObj hown _ hl rfl
    have hlb : Wb.heap[D + 1]? = some (.loop busy) := by rw [hWb]; exact World.putObj_heap_same hlt1
    have hDb : Wb.heap[D]? = some (.deferred (some [])) := by rw [hWb]; exact (World.putObj_heap_other (by omega)).trans hD
    have hszb : Wb.heap.size = Wv.heap.size := by rw [hWb]; simp
    have hBb : Below c w Wb := by rw [hWb]; exact hB.grown (grownBy_putObj' _ _ _) (by have := hv.lt; omega) (fun k e => by have := Option.some.inj e; omega)
    obtain ⟨A', cp, rfl, _⟩ := hown.sl
    have hBb2 : Blk Wb pv (rpC z) 56 := by rw [hWb]; exact (World.putObj_heap_other (by omega)).trans hBv
    have hQ5 := hBb2.ld rowRp (rpC_len z)
    have hcc := hvb.cell
    have hvl := hvb.lt
    clear hWb hg2 hv hown hB hzk hBv hBb2
    gi_wp2_with (gi_at_builtin; refine wpListIn_appI tyeRp rfl _ _ rfl (c + 1) _ pre [z] rfl (hownb.below ((Below.refl _ _).alloc (Nat.le_refl _) _)) ⟨_, 0, none⟩ 1 1 rfl rfl ?c1 ?c2 ?c3 ?_)
    case c1 => intro j u hj; rw [Enc.cells_single] at hj; exact hj
    case c2 => have := hkn.out; omega
    case c3 => omega
    intro v' w3 hown3 hg3 hd3
    have hne3 : some c ≠ (Value.slice A' pre.length cp).ownBlock := fun e => by have := hownb.lt _ e.symm; omega
    have hv3 : Boxed w3 c 49 (.slice A' pre.length cp) := (hg3.block c (by simp; omega) hne3).trans ((Below.heap_alloc _ _ _ hvl).trans hvb)
    have hl3 : w3.heap[D + 1]? = some (.loop busy) := (hg3.block _ (by simp; omega) (fun e => by
      obtain ⟨cs, hcs⟩ := own_cells hownb e.symm
      rw [hlb] at hcs; cases hcs)).trans ((Below.heap_alloc _ _ _ (by omega)).trans hlb)
    have hD3 : w3.heap[D]? = some (.deferred (some [])) := (hg3.block _ (by simp; omega) (fun e => by
      obtain ⟨cs, hcs⟩ := own_cells hownb e.symm
      rw [hDb] at hcs; cases hcs)).trans ((Below.heap_alloc _ _ _ (by omega)).trans hDb)
    have hB3 : Below c w w3 := (hBb.alloc (by omega) _).grown hg3 (by simp; omega) (fun k h => by have := (hownb.lt k h).1; omega)
    have hf3 := hv3.frozen
    have hc3 := hv3.cell
    obtain ⟨g', cp', hv', _⟩ := hown3.form (by simp)
    rw [show (pre ++ [z]).length = pre.length + 1 by simp] at hv'
    obtain ⟨L, hL⟩ : ∃ L, L = pre.length + 1 := ⟨_, rfl⟩
    rw [← hL] at hv'
    subst hv'
    clear hL
    replace hown3 := Lib.hid hown3
    clear hg3 hd3 hownb hlb hDb hBb hcc hvb hne3
    gi_wp2
    have hvS := hv3.set (.slice (some ⟨g', 0, none⟩) L cp')
    have hlS : (w3.setCell ⟨c, 0, none⟩ (.slice (some ⟨g', 0, none⟩) L cp')).heap[D + 1]? = some (.loop busy) := (Below.heap_setCell _ _ _ _ (by show D + 1 ≠ c; omega)).trans hl3
    have hDS : (w3.setCell ⟨c, 0, none⟩ (.slice (some ⟨g', 0, none⟩) L cp')).heap[D]? = some (.deferred (some [])) := (Below.heap_setCell _ _ _ _ (by show D ≠ c; omega)).trans hD3
    have hBS := hB3.setCell (p := ⟨c, 0, none⟩) (Nat.le_refl _) (.slice (some ⟨g', 0, none⟩) L cp')
    have hoS : OwnE eRp 56 (c + 1) (w3.setCell ⟨c, 0, none⟩ (.slice (some ⟨g', 0, none⟩) L cp')) (.slice (some ⟨g', 0, none⟩) L cp') (pre ++ [z]) := own_gbI hown3.out (grownBy_setCell' w3 c (.slice (some ⟨g', 0, none⟩) L cp')) (fun r e he => by have := Option.some.inj e; have := hown3.out.lt r he; omega)
    have hltS := (Array.getElem?_eq_some_iff.1 hlS).1
    refine ⟨_, _, run_endRound none hlS, rfl, .slice (some ⟨g', 0, none⟩) L cp', ?_, ?_, ?_, ?_, ?_⟩
    · exact hvS.kept (grownBy_putObj' _ _ _) (by intro e; have := Option.some.inj e; omega)
    · rw [htk.out]; exact ownsRow_putObj hoS _ hlS rfl
    · rw [hbusy, hrc.out]; exact World.putObj_heap_same hltS
    · exact (World.putObj_heap_other (by omega)).trans hDS
    · exact hBS.grown (grownBy_putObj' _ _ _) (by omega) (fun k e => by have := Option.some.inj e; omega)
  · rintro e W2 ⟨⟨v0, rfl⟩, v', hv, hown, hl, hD, hBel⟩
    rw [hS.out.1, List.take_length] at hown
    have hel := run_endLoop (P := Tryz.prog) hl (by rw [hrc]; simp)
    obtain ⟨W3, hW3⟩ : ∃ X, X = W2.putObj (D + 1) (.loop { rc .ready none with state := .exhausted }) := ⟨_, rfl⟩
    rw [← hW3] at hel
    refine ⟨none, W3, by rw [hel, hrc], ?_⟩
    have hcl := hDc.out
    have hg := grownBy_putObj' W2 (D + 1) (.loop { rc .ready none with state := .exhausted })
    rw [← hW3] at hg
    have hv3 := hv.kept hg (by intro e; have := Option.some.inj e; omega)
    have hown3 : OwnE eRp 56 (c + 1) W3 v' zs := by rw [hW3]; exact ownsRow_putObj hown _ hl rfl
    have hD3 : W3.heap[D]? = some (.deferred (some [])) := by rw [hW3]; exact (World.putObj_heap_other (by omega)).trans hD
    have hB3 : Below c w W3 := hBel.grown hg (by have := hv.lt; omega) (fun k e => by have := Option.some.inj e; omega)
    obtain ⟨A', cp, rfl, hsl⟩ := hown3.sl
    have hcc := hv3.cell
    clear hv hown hl hD hBel hg hW3 hel
    gi_wp2
    rw [hcl] at hD3
    refine ⟨by simp, .inl ⟨_, _, rfl, run_takeDeferred hD3, ?_⟩⟩
    have hgF := grownBy_putObj' W3 (c + 1) (.deferred none)
    have hBf := hB3.grown hgF (by have := hv3.lt; omega) (fun k e => by have := Option.some.inj e; omega)
    refine ⟨.slice A' zs.length cp, ?_, ⟨_, rfl, OwnE.mono (ownsRow_putObj hown3 _ hD3 rfl) (by have := hc'.out; omega)⟩, hBf⟩
    simp [results, Tryz.results321, go_sem]
theorem collectR_any (bs : Nat) (A : Option Addr) (n cap : Nat) (zs : List Rp) (w : World) (hS : SlE eRp w A n cap zs) (hbs : Boxed w bs 49 (.slice A n cap)) (hn : n ≤ 100000) :
    Calls Tryz.prog 252 #[.func (.func 253) #[] #[.pointer (some ⟨bs, 0, none⟩)]] w fun e w' => (∃ v, e = .returned v ∧ OwnE eRp 56 w.heap.size w' v zs) ∧ Below w.heap.size w w' := by
  have HA := Lib.hid (appendSeqR_any bs A n cap zs w hS hbs hn)
  clear hS hbs
  go_enter Tryz.func252, Tryz.ntmps252
  go_wp2_with fail
  refine HA.out.mono ?_
  rintro e w1 ⟨⟨v, rfl, hown⟩, hb⟩
  go_wp2_with fail
  go_ret
  exact ⟨⟨v, rfl, hown⟩, hb⟩
end Go.Proofs.YtfiocnjogbpgoaaGreatDoor
namespace Go.Proofs.YtfiocnjogbpgoaaGreatDoor
open Go.RowKit Go.Shelf
set_option linter.unusedVariables false
set_option linter.unusedSimpArgs false

theorem lays_insRpC (blk off size : Nat) (w : World) : CmpLays Tryz.prog 60 #[] (onP Rp.U eRp).enc (onP Rp.U eRp).k cmpRU blk off size w :=
  fun _ _ _ _ x y => (repCmp_d x.1 y.1 _ x.2 y.2).mono fun _ _ h => ⟨h.1, h.2.grows⟩
set_option maxHeartbeats 2000000 in
set_option maxRecDepth 100000 in
theorem insRpC_any (B : Nat) (A : Option Addr) (n cap : Nat) (v : Value) (hv : v = .slice A n cap) (xs : List Rp) (w : World) (hown : OwnE eRp 56 B w v xs) (hU : ∀ x ∈ xs, x.U) (hb : B ≤ w.heap.size) (hn : n ≤ 1000000) :
    Calls Tryz.prog 163 #[v, .int .i64 0, .int .i64 n, .func (.func 60) #[] #[]] w (SrtR B w v xs) := by
  by_cases h0 : xs = []
  · subst h0
    obtain ⟨A', cap', hvv, hS⟩ := hown.sl
    rw [hv] at hvv
    injection hvv with e1 e2 e3
    subst hv e1 e2 e3
    refine (noneI_any Tryz.insRep A cap _ w).mono ?_
    rintro e w' ⟨rfl, rfl⟩
    exact ⟨rfl, [], List.Perm.refl _, List.Pairwise.nil, hown, Below.refl _ _⟩
  · obtain ⟨ys, rfl⟩ := lift_P xs hU
    obtain ⟨g, cap', hvv, hg1, hg2, hcap, _⟩ := hown.form h0
    rw [hv] at hvv
    injection hvv with e1 e2 e3
    subst hv e1 e2 e3
    have hH := holdsP_own (E := eRp) hown
    have eg : ∀ args w, (callFunc 60 args).run Tryz.prog w = .ok (.enter 60 args) w := enters_of Tryz.func60 (by kernel_rfl) rfl
    have hcon := AnyQ.insertionSortCmpFunc Tryz.insRep 14 Tryz.isAgg56 Tryz.sizeOf56 (onP Rp.U eRp).enc (onP Rp.U eRp).len (onP Rp.U eRp).one cmpRU 60 #[] g 0 cap 0 ys.toArray.size ys.toArray w eg (lays_insRpC g 0 ys.toArray.size w) hH hg2 (Nat.zero_le _) (Nat.le_refl _) (by simp at hn ⊢; omega)
    change Calls Tryz.prog 163 _ _ _ at hcon
    have e0 : ys.toArray.size = ys.length := by simp
    have hI := Sort.insertionSort_holds (lt := ltOf cmpRU) swo_cmpRU ys.toArray 0 ys.toArray.size (Nat.zero_le _) (Nat.le_refl _)
    generalize Sort.insertionSort (ltOf cmpRU) ys.toArray 0 ys.toArray.size = d' at hcon hI
    obtain ⟨hp, hs⟩ := hI
    rw [e0] at hcon hs
    rw [List.length_map] at hown ⊢
    refine hcon.mono ?_
    rintro e w' ⟨rfl, m, os, rfl⟩
    have hsz : d'.size = ys.length := hp.1.trans e0
    refine ⟨rfl, List.map (fun x : RpU => x.1) d'.toList, by simpa using (perm_ofP hp).map (fun x : RpU => x.1), pairwise_ofR hsz hs, ?_, below_sortP hg1 hb⟩
    exact own_sortedP (E := eRp) hown hsz

set_option maxHeartbeats 2000000 in
set_option maxRecDepth 100000 in
theorem stableRpC_any (B : Nat) (A : Option Addr) (n cap : Nat) (v : Value) (hv : v = .slice A n cap) (xs : List Rp) (w : World) (hown : OwnE eRp 56 B w v xs) (hU : ∀ x ∈ xs, x.U) (hb : B ≤ w.heap.size) (hn : n < 20) :
    Calls Tryz.prog 52 #[v, .func (.func 60) #[] #[]] w (SrtR B w v xs) := by
  have HC := Lib.hid (insRpC_any B A n cap v hv xs w hown hU hb (by omega))
  subst hv
  clear hown hU hb
  have HS : Hid (Calls Tryz.prog 99 #[.slice A n cap, .int .i64 n, .func (.func 60) #[] #[]] w (SrtR B w (.slice A n cap) xs)) := by
    refine Lib.hid ?_
    have h1 : ¬ (20 : Int) ≤ n := by omega
    have h2 : ¬ (20 : Int) < n := by omega
    go_enter Tryz.func99, Tryz.ntmps99
    go_wp2_with fail
    refine wp_loop_rounds 1 ?_
    rw [rounds_succ]
    go_wp2_with fail
    refine HC.out.mono ?_
    intro e w1 hq
    obtain ⟨rfl, hq⟩ := hq
    replace hq := Lib.hid hq
    go_wp2_with fail
    refine wp_loop_rounds 1 ?_
    rw [rounds_succ]
    go_wp2_with fail
    refine bodyPost_ret (v := .tuple #[]) ?_ rfl ⟨rfl, hq.out⟩
    simp [results, Tryz.results99, go_sem]
  clear HC
  go_enter Tryz.func52, Tryz.ntmps52
  go_wp2_with fail
  refine HS.out.mono ?_
  intro e w1 hq
  obtain ⟨rfl, hq⟩ := hq
  replace hq := Lib.hid hq
  go_wp2_with fail
  refine bodyPost_ret (v := .tuple #[]) ?_ rfl ⟨rfl, hq.out⟩
  simp [results, Tryz.results52, go_sem]

set_option maxHeartbeats 2000000 in
set_option maxRecDepth 100000 in
theorem insEndC_any (B : Nat) (A : Option Addr) (n cap : Nat) (v : Value) (hv : v = .slice A n cap) (xs : List Rp) (w : World) (hown : OwnE eRp 56 B w v xs) (hU : ∀ x ∈ xs, x.U) (h0 : xs ≠ []) (hb : B ≤ w.heap.size) (hn : n ≤ 1000000) :
    Calls Tryz.prog 163 #[v, .int .i64 n, .int .i64 n, .func (.func 60) #[] #[]] w fun e w' => e = .returned (.tuple #[]) ∧ OwnE eRp 56 B w' v xs ∧ Below B w w' := by
  obtain ⟨ys, rfl⟩ := lift_P xs hU
  obtain ⟨g, cap', hvv, hg1, hg2, hcap, _⟩ := hown.form h0
  rw [hv] at hvv
  injection hvv with e1 e2 e3
  subst hv e1 e2 e3
  have hH := holdsP_own (E := eRp) hown
  have eg : ∀ args w, (callFunc 60 args).run Tryz.prog w = .ok (.enter 60 args) w := enters_of Tryz.func60 (by kernel_rfl) rfl
  have hcon := AnyQ.insertionSortCmpFunc Tryz.insRep 14 Tryz.isAgg56 Tryz.sizeOf56 (onP Rp.U eRp).enc (onP Rp.U eRp).len (onP Rp.U eRp).one cmpRU 60 #[] g 0 cap ys.toArray.size ys.toArray.size ys.toArray w eg (lays_insRpC g 0 ys.toArray.size w) hH hg2 (Nat.le_refl _) (Nat.le_refl _) (by simp at hn ⊢; omega)
  change Calls Tryz.prog 163 _ _ _ at hcon
  have e0 : ys.toArray.size = ys.length := by simp
  have hI := (Sort.insertionSort_holds (lt := ltOf cmpRU) swo_cmpRU ys.toArray ys.toArray.size ys.toArray.size (Nat.le_refl _) (Nat.le_refl _)).1
  generalize Sort.insertionSort (ltOf cmpRU) ys.toArray ys.toArray.size ys.toArray.size = d' at hcon hI
  have hd : d' = ys.toArray := by
    apply Array.ext hI.1
    intro i a b
    have := hI.2.1 i (.inl b)
    rw [getElem!_pos d' i a, getElem!_pos ys.toArray i b] at this
    exact this
  subst hd
  rw [e0] at hcon
  rw [List.length_map] at hown ⊢
  refine hcon.mono ?_
  rintro e w' ⟨rfl, m, os, rfl⟩
  refine ⟨rfl, ?_, below_sortP hg1 hb⟩
  have := own_sortedP (E := eRp) (d' := ys.toArray) (m := m) (os := os) hown e0
  rw [show ys.toArray.toList = ys by simp] at this
  exact this

set_option maxHeartbeats 2000000 in
set_option maxRecDepth 100000 in
theorem stable20C_any (B : Nat) (A : Option Addr) (cap : Nat) (v : Value) (hv : v = .slice A 20 cap) (xs : List Rp) (w : World) (hown : OwnE eRp 56 B w v xs) (hU : ∀ x ∈ xs, x.U) (h0 : xs ≠ []) (hb : B ≤ w.heap.size) :
    Calls Tryz.prog 52 #[v, .func (.func 60) #[] #[]] w (SrtR B w v xs) := by
  have HC : Hid (Calls Tryz.prog 163 #[v, .int .i64 0, .int .i64 20, .func (.func 60) #[] #[]] w (SrtR B w v xs)) := Lib.hid (insRpC_any B A 20 cap v hv xs w hown hU hb (by decide))
  have HE : Hid (∀ qs w1, OwnE eRp 56 B w1 v qs → (∀ x ∈ qs, x.U) → qs ≠ [] → B ≤ w1.heap.size → Calls Tryz.prog 163 #[v, .int .i64 20, .int .i64 20, .func (.func 60) #[] #[]] w1 fun e w' => e = .returned (.tuple #[]) ∧ OwnE eRp 56 B w' v qs ∧ Below B w1 w') := Lib.hid (fun qs w1 a b c d => insEndC_any B A 20 cap v hv qs w1 a b c d (by decide))
  subst hv
  replace hU := Lib.hid hU
  replace h0 := Lib.hid h0
  clear hown
  have HS : Hid (Calls Tryz.prog 99 #[.slice A 20 cap, .int .i64 20, .func (.func 60) #[] #[]] w (SrtR B w (.slice A 20 cap) xs)) := by
    refine Lib.hid ?_
    go_enter Tryz.func99, Tryz.ntmps99
    go_wp2_with fail
    refine wp_loop_rounds 2 ?_
    rw [rounds_succ]
    go_wp2_with fail
    refine HC.out.mono ?_
    intro e w1 hq
    obtain ⟨rfl, qs, hp, hs, hown, hb1⟩ := hq
    have HE2 := Lib.hid (HE.out qs w1 hown (fun x hx => hU.out x (hp.mem_iff.1 hx)) (fun k => h0.out (by subst k; exact List.length_eq_zero_iff.1 hp.length_eq.symm)) (Nat.le_trans hb hb1.size))
    replace hp := Lib.hid hp
    replace hs := Lib.hid hs
    clear HC HE hown
    go_wp2_with fail
    rw [rounds_succ]
    go_wp2_with fail
    refine HE2.out.mono ?_
    rintro e w2 ⟨rfl, hown, hb2⟩
    replace hown := Lib.hid hown
    go_wp2_with fail
    refine wp_loop_rounds 1 ?_
    rw [rounds_succ]
    go_wp2_with fail
    refine bodyPost_ret (v := .tuple #[]) ?_ rfl ⟨rfl, qs, hp.out, hs.out, hown.out, hb1.trans hb2⟩
    simp [results, Tryz.results99, go_sem]
  clear HC HE hU h0
  go_enter Tryz.func52, Tryz.ntmps52
  go_wp2_with fail
  refine HS.out.mono ?_
  intro e w1 hq
  obtain ⟨rfl, hq⟩ := hq
  replace hq := Lib.hid hq
  go_wp2_with fail
  refine bodyPost_ret (v := .tuple #[]) ?_ rfl ⟨rfl, hq.out⟩
  simp [results, Tryz.results52, go_sem]
theorem stableAllC_any (B : Nat) (A : Option Addr) (n cap : Nat) (v : Value) (hv : v = .slice A n cap) (xs : List Rp) (w : World) (hown : OwnE eRp 56 B w v xs) (hU : ∀ x ∈ xs, x.U) (hb : B ≤ w.heap.size) (hnl : n = xs.length) (hn : n ≤ 20) :
    Calls Tryz.prog 52 #[v, .func (.func 60) #[] #[]] w (SrtR B w v xs) := by
  by_cases h : n < 20
  · exact stableRpC_any B A n cap v hv xs w hown hU hb h
  · have e : n = 20 := by omega
    subst e
    exact stable20C_any B A cap v hv xs w hown hU (by intro k; subst k; exact absurd hnl (by decide)) hb
end Go.Proofs.YtfiocnjogbpgoaaGreatDoor
namespace Go.Proofs.YtfiocnjogbpgoaaGreatDoor
open Go.RowKit
set_option linter.unusedVariables false
set_option linter.unusedSimpArgs false

/-- A list sorted into memory of its own. -/
def SrtN (w : World) (xs : List Rp) (e : Ending) (w' : World) : Prop := ∃ (A : Option Addr) (cap : Nat) (qs : List Rp), e = .returned (.slice A xs.length cap) ∧ qs.Perm xs ∧ qs.Pairwise (fun x y => cmpRp x y ≤ 0) ∧ OwnE eRp 56 w.heap.size w' (.slice A xs.length cap) qs ∧ Below w.heap.size w w'

set_option maxHeartbeats 2000000 in
set_option maxRecDepth 100000 in
theorem sortedStable_any (bs : Nat) (A : Option Addr) (n cap : Nat) (zs : List Rp) (w : World) (hS : SlE eRp w A n cap zs) (hbs : Boxed w bs 49 (.slice A n cap)) (hn : n ≤ 20) (hU : ∀ x ∈ zs, x.U) :
    Calls Tryz.prog 173 #[.func (.func 253) #[] #[.pointer (some ⟨bs, 0, none⟩)], .func (.func 60) #[] #[]] w (SrtN w zs) := by
  have HC := Lib.hid (collectR_any bs A n cap zs w hS hbs (by omega))
  have hl := Lib.hid (show zs.length ≤ 20 by rw [← hS.1]; exact hn)
  replace hU := Lib.hid hU
  clear hS hbs hn
  go_enter Tryz.func173, Tryz.ntmps173
  go_wp2_with fail
  refine HC.out.mono ?_
  rintro e w1 ⟨⟨v, rfl, hown⟩, hb⟩
  obtain ⟨A', c', hv, _⟩ := hown.sl
  have HS := Lib.hid (stableAllC_any w.heap.size A' zs.length c' v hv zs w1 hown hU.out hb.size rfl hl.out)
  subst hv
  obtain ⟨L, hL⟩ : ∃ L, L = zs.length := ⟨_, rfl⟩
  rw [← hL] at HS ⊢
  replace hL := Lib.hid hL
  clear HC hown
  go_wp2_with fail
  refine HS.out.mono ?_
  intro e w2 hq
  obtain ⟨rfl, qs, hp, hs, hown, hb2⟩ := hq
  have hbF := hb.trans hb2
  replace hp := Lib.hid hp
  replace hs := Lib.hid hs
  replace hown := Lib.hid hown
  clear HS hb hb2
  go_wp2_with fail
  go_ret
  exact ⟨A', c', qs, by rw [← hL.out]; rfl, hp.out, hs.out, by rw [← hL.out]; exact hown.out, hbF⟩
end Go.Proofs.YtfiocnjogbpgoaaGreatDoor
