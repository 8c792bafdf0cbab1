/- Numbers, one after the other. -/
import Derived.Test.YtfiocnjogbpgoaaGreatDoorKjItA
import Derived.Test.YtfiocnjogbpgoaaGreatDoorKjLaneC
namespace Go.Proofs.YtfiocnjogbpgoaaGreatDoor
open Go.RowKit
set_option linter.unusedVariables false
set_option linter.unusedSimpArgs false

/-- A number. -/
def eInt : Enc Int := ⟨fun z => [.int .i64 z], 1, by decide, fun _ => rfl, fun x v hv => by rw [List.mem_singleton.1 hv]; rfl⟩
theorem infoInt : (Tryz.prog.info? 3).map (fun i => (i.zero, i.size, i.bytes)) = some (some (.int .i64 0), 1, 8) := by kernel_rfl
theorem tyeInt : Ty eInt 3 22 (.int .i64 0) 8 := ⟨Tryz.underlying22, infoInt, rfl, by decide⟩
/-- The cells of a slice of numbers. -/
theorem SlE.num {w : World} {A : Option Addr} {n cap : Nat} {zs : List Int} (h : SlE eInt w A n cap zs) {k : Nat} {z : Int} (hz : zs[k]? = some z) : ∃ b off, A = some ⟨b, off, none⟩ ∧ b < w.heap.size ∧ w.cell? ⟨b, off + k, none⟩ = some (.int .i64 z) := by
  have hk : k < n := by rw [h.1]; exact (List.getElem?_eq_some_iff.1 hz).1
  obtain ⟨g, off, hA, hg, hc⟩ := h.at' hk
  refine ⟨g, off, hA, hg, ?_⟩
  have := hc k z hz 0 (.int .i64 z) rfl
  rw [show eInt.k = 1 from rfl, Nat.mul_one, Nat.add_zero] at this
  exact this

theorem needI_any (q : Bool) (x : Int) (w : World) : Calls Tryz.prog 111 #[.bool q, .int .i64 x] w fun e w' => e = .returned (.int .i64 (if q then 0 else x)) ∧ w = w' := by
  cases q
  all_goals
    go_enter Tryz.func111, Tryz.ntmps111
    go_wp2_with fail
    go_ret
    exact ⟨rfl, rfl⟩
theorem numberI_any (n a b : Int) (w : World) : Calls Tryz.prog 62 #[.int .i64 n, .int .i64 a, .int .i64 b] w fun e w' => e = .returned (.int .i64 (if a ≤ n ∧ n ≤ b then 0 else 1)) ∧ w = w' := by
  have HN := fun q w' => Lib.hid (needI_any q 1 w')
  by_cases h1 : a ≤ n
  · by_cases h2 : n ≤ b
    · rw [if_pos ⟨h1, h2⟩]
      replace HN := fun w' => HN true w'
      go_enter Tryz.func62, Tryz.ntmps62
      go_wp2_with fail
      refine (HN _).out.mono ?_
      rintro e w1 ⟨rfl, rfl⟩
      go_wp2_with fail
      go_ret
      exact ⟨rfl, rfl⟩
    · rw [if_neg (fun h => h2 h.2)]
      replace HN := fun w' => HN false w'
      go_enter Tryz.func62, Tryz.ntmps62
      go_wp2_with fail
      refine (HN _).out.mono ?_
      rintro e w1 ⟨rfl, rfl⟩
      go_wp2_with fail
      go_ret
      exact ⟨rfl, rfl⟩
  · rw [if_neg (fun h => h1 h.1)]
    replace HN := fun w' => HN false w'
    go_enter Tryz.func62, Tryz.ntmps62
    go_wp2_with fail
    refine (HN _).out.mono ?_
    rintro e w1 ⟨rfl, rfl⟩
    go_wp2_with fail
    go_ret
    exact ⟨rfl, rfl⟩

theorem numOne_any (z : Int) (w : World) : Calls Tryz.prog 94 #[.int .i64 z] w fun e w' => e = .returned (.int .i64 (if okNum z then 0 else 1)) ∧ w = w' := by
  have HN := fun w' => Lib.hid (numberI_any z 0 2000000000000 w')
  have e : (if okNum z then (0 : Int) else 1) = if 0 ≤ z ∧ z ≤ 2000000000000 then 0 else 1 := by
    by_cases h : okNum z
    · rw [if_pos h, if_pos (okNum_iff.1 h)]
    · rw [if_neg h, if_neg (fun g => h (okNum_iff.2 g))]
  rw [e]
  generalize (if 0 ≤ z ∧ z ≤ 2000000000000 then (0 : Int) else 1) = r at HN
  go_enter Tryz.func94, Tryz.ntmps94
  go_wp2_with fail
  refine (HN _).out.mono ?_
  rintro e w1 ⟨rfl, rfl⟩
  go_wp2_with fail
  go_ret
  exact ⟨rfl, rfl⟩

theorem all_takeB {α : Type} {p : α → Bool} {zs : List α} {k : Nat} {z : α} (hz : zs[k]? = some z) (h : (zs.take k).all p = true) (hq : p z = true) : (zs.take (k + 1)).all p = true := by
  rw [List.take_add_one, hz, List.all_append, h]
  simpa using hq
theorem all_badB {α : Type} {p : α → Bool} {zs : List α} {k : Nat} {z : α} (hz : zs[k]? = some z) (hq : p z = false) : zs.all p = false := by
  cases e : zs.all p
  · rfl
  · have := List.all_eq_true.1 e z (List.mem_of_getElem? hz)
    rw [hq] at this; cases this

set_option maxHeartbeats 4000000 in
set_option maxRecDepth 100000 in
theorem eachI_any (r : Int) (A : Option Addr) (n cap : Nat) (zs : List Int) (w : World) (hS : SlE eInt w A n cap zs) (hn : n ≤ 1000000) (hr : r = if 3000 < zs.length then 2 else if zs.all okNum then 0 else 1) :
    Calls Tryz.prog 93 #[.slice A n cap, .int .i64 3000, .func (.func 94) #[] #[]] w fun e w' => e = .returned (.int .i64 r) ∧ w = w' := by
  have hl := hS.1
  by_cases h3 : 3000 < n
  · have hV := Lib.hid (show r = 2 by rw [hr, if_pos (by omega)])
    have h3' : (3000 : Int) < n := by omega
    clear h3 hS hl hn hr
    go_enter Tryz.func93, Tryz.ntmps93
    go_wp2_with fail
    go_ret
    exact ⟨by rw [hV.out]; rfl, rfl⟩
  · have hV := Lib.hid (show r = if zs.all okNum then 0 else 1 by rw [hr, if_neg (by omega)])
    have h3' : ¬ (3000 : Int) < n := by omega
    have HI := Lib.hid (fun z w' => numOne_any z w')
    replace hl := Lib.hid hl
    replace hS := Lib.hid hS
    clear h3 hr
    go_enter Tryz.func93, Tryz.ntmps93
    go_wp2_with fail
    go_loopw [16] (fun i wr => ∃ k : Nat, k ≤ n ∧ i = .int .i64 k ∧ w = wr ∧ Hid ((zs.take k).all okNum = true)) (fun i _ => n - (intOf i).toNat)
    case atStart => exact ⟨0, by omega, rfl, rfl, Lib.hid (by simp)⟩
    case round =>
      obtain ⟨k, hk, rfl, rfl, hG⟩ := hrel
      by_cases hlt : k < n
      · obtain ⟨z, hz⟩ : ∃ z, zs[k]? = some z := ⟨zs[k]'(by have := hl.out; omega), List.getElem?_eq_getElem _⟩
        obtain ⟨b, off, rfl, hb, hc⟩ := hS.out.num hz
        have hlt' : (k : Int) < n := by omega
        have hH := Lib.hid (all_takeB (p := okNum) hz hG.out)
        have hBad := Lib.hid (all_badB (p := okNum) hz)
        clear hb
        cases hq : okNum z
        · have HY := Lib.hid (hBad.out hq)
          have HI1 := fun w' => Lib.hid (show Calls Tryz.prog 94 #[.int .i64 z] w' fun e w2 => e = .returned (.int .i64 1) ∧ w' = w2 from by have := HI.out z w'; rw [hq] at this; exact this)
          clear hz hG hH hBad hq HI
          go_wp2_with fail
          refine (HI1 _).out.mono ?_
          rintro e w2 ⟨rfl, rfl⟩
          go_wp2_with fail
          go_ret
          exact ⟨by rw [hV.out, HY.out]; rfl, rfl⟩
        · have HI1 := fun w' => Lib.hid (show Calls Tryz.prog 94 #[.int .i64 z] w' fun e w2 => e = .returned (.int .i64 0) ∧ w' = w2 from by have := HI.out z w'; rw [hq] at this; exact this)
          replace hH := Lib.hid (hH.out hq)
          clear hz hG hBad hq HI
          go_wp2_with fail
          refine (HI1 _).out.mono ?_
          rintro e w2 ⟨rfl, rfl⟩
          go_wp2_with fail
          go_roundw
          case rel => exact ⟨k + 1, by omega, by go_num, trivial, hH⟩
          case measure => simp [intOf]; omega
      · have hall : Hid (zs.all okNum = true) := Lib.hid (by have := hG.out; rw [List.take_of_length_le (by have := hl.out; omega)] at this; exact this)
        clear hG
        go_wp2_with fail
        go_ret
        exact ⟨by rw [hV.out, hall.out]; rfl, rfl⟩

set_option maxHeartbeats 1000000 in
theorem checkNumbers_any (A : Option Addr) (n cap : Nat) (zs : List Int) (w : World) (hS : SlE eInt w A n cap zs) (hn : n ≤ 1000000) :
    Calls Tryz.prog 47 #[.slice A n cap] w fun e w' => e = .returned (.int .i64 (numsF zs)) ∧ w = w' := by
  have hl := hS.1
  obtain ⟨r, hr⟩ : ∃ r, r = numsF zs := ⟨_, rfl⟩
  rw [← hr]
  by_cases h0 : n = 0
  · have hV := Lib.hid (show r = 8 by rw [hr]; unfold numsF; rw [if_pos (List.eq_nil_of_length_eq_zero (by omega))])
    subst h0
    clear hS hl hn hr
    go_enter Tryz.func47, Tryz.ntmps47
    go_wp2_with fail
    go_ret
    exact ⟨by rw [hV.out]; rfl, rfl⟩
  · have HE := Lib.hid (eachI_any r A n cap zs w hS hn (by
      rw [hr]; unfold numsF; rw [if_neg]; rintro rfl; exact h0 hl))
    have h0' : ((n : Int) == 0) = false := by simpa using h0
    clear hS hl h0 hr
    go_enter Tryz.func47, Tryz.ntmps47
    go_wp2_with fail
    refine HE.out.mono ?_
    rintro e w1 ⟨rfl, rfl⟩
    go_wp2_with fail
    go_ret
    exact ⟨rfl, rfl⟩
end Go.Proofs.YtfiocnjogbpgoaaGreatDoor
namespace Go.Proofs.YtfiocnjogbpgoaaGreatDoor
open Go.RowKit
set_option linter.unusedVariables false
set_option linter.unusedSimpArgs false

attribute [local go_sem] Oper.semAt_some

theorem valuesI_any (A : Option Addr) (n cap : Nat) (w : World) :
    Calls Tryz.prog 96 #[.slice A n cap] w fun e w' => e = .returned (.func (.func 162) #[] #[.pointer (some ⟨w.heap.size, 0, none⟩)]) ∧ w' = w.alloc (.cells #[.slice A n cap] 22) := by
  go_enter Tryz.func96, Tryz.ntmps96
  go_wp2_with fail
  go_ret
  exact ⟨rfl, rfl⟩

set_option maxRecDepth 100000 in
set_option maxHeartbeats 4000000 in
theorem valuesI1_in (N : Nat) (hN : 1 ≤ N) (l bs : Nat) (A : Option Addr) (n cap : Nat) (zs : List Int) (hn : n ≤ 100000) (hnl : n = zs.length)
    (J : Nat → World → Prop)
    (hY : ∀ (k : Nat) z W, zs[k]? = some z → J k W → YieldAt Fence.wide (N - 1) Tryz.prog l #[.int .i64 z] W fun e W' => e = .returned (.bool true) ∧ J (k + 1) W')
    (hR : ∀ k W, J k W → SlE eInt W A n cap zs)
    (W : World) (hbs : Boxed W bs 22 (.slice A n cap)) (hJ : J 0 W) :
    CallsIn Fence.wide N Tryz.prog 162 #[.func (.yield l) #[] #[], .pointer (some ⟨bs, 0, none⟩)] W fun e W' => (∃ v, e = .returned v) ∧ J n W' := by
  replace hY := Lib.hid hY
  replace hR := Lib.hid hR
  refine callsIn_of_wp Tryz.func162 rfl trivial ?_ rfl
  simp only [Tryz.ntmps162, List.size_toArray, List.length_cons, List.length_nil, Nat.reduceAdd, Nat.reduceSub, Array.replicate_succ, Array.replicate_zero, List.push_toArray, List.append_toArray, List.nil_append, List.cons_append]
  have q1 := hbs.cell
  replace hnl := Lib.hid hnl
  gi_wp2
  gi_loopw [7] (fun i wr => ∃ k : Nat, k ≤ n ∧ i = .int .i64 (k : Int) ∧ J k wr) (fun i _ => n - (intOf i).toNat)
  case atStart => exact ⟨0, Nat.zero_le _, rfl, hJ⟩
  case round =>
    clear hbs q1 hJ
    obtain ⟨k, hk, rfl, hJ⟩ := hrel
    by_cases hlt : k < n
    · obtain ⟨z, hz⟩ : ∃ z, zs[k]? = some z := ⟨zs[k]'(by have := hnl.out; omega), List.getElem?_eq_getElem _⟩
      have hS := hR.out _ _ hJ
      obtain ⟨g, off, rfl, _, hcell⟩ := hS.num hz
      have hcap := hS.2.1
      have hkm : (k : Int) < n := by omega
      obtain ⟨fn, tmps, assign, body, hy, hRr⟩ := hY.out k z wr hz hJ
      have hk0 := Lib.hid hk
      clear hJ hS hk hz
      gi_wp2
      refine hRr.mono ?_
      rintro e W3 ⟨rfl, hJ3⟩
      gi_wp2
      go_roundw
      case rel => exact ⟨k + 1, by have := hk0.out; omega, by go_num, hJ3⟩
      case measure => simp [intOf]; omega
    · have hkn : k = n := by omega
      subst hkn
      gi_wp2
      go_end0
      exact ⟨⟨_, rfl⟩, hJ⟩

theorem own_cells {α : Type} {E : Enc α} {t : TypeId} {B : Nat} {w : World} {v : Value} {xs : List α} (h : OwnE E t B w v xs) {k : Nat} (hk : v.ownBlock = some k) : ∃ cs, w.heap[k]? = some (.cells cs t (0, 0)) := by
  rcases h.2 with ⟨rfl, _⟩ | ⟨g, cap, cur, rfl, hg, hh, _⟩
  · cases hk
  · cases hk; exact ⟨cur, hh⟩

/-- What AppendSeq's loop says of its own state: the row so far. -/
def SeqI (w : World) (zs : List Int) (c l D : Nat) (rc : Loop) (k : Nat) (W : World) : Prop :=
  ∃ v, Boxed W c 22 v ∧ OwnE eInt 3 (c + 1) W v (zs.take k) ∧ W.heap[l]? = some (.loop rc) ∧ W.heap[D]? = some (.deferred (some [])) ∧ Below c w W

set_option maxRecDepth 100000 in
set_option maxHeartbeats 4000000 in
theorem appendSeqI_any (bs : Nat) (A : Option Addr) (n cap : Nat) (zs : List Int) (w : World) (hS : SlE eInt w A n cap zs) (hbs : Boxed w bs 22 (.slice A n cap)) (hn : n ≤ 100000) :
    Calls Tryz.prog 244 #[.slice none 0 0, .func (.func 162) #[] #[.pointer (some ⟨bs, 0, none⟩)]] w fun e w' => (∃ v, e = .returned v ∧ OwnE eInt 3 w.heap.size w' v zs) ∧ Below w.heap.size w w' := by
  refine (callsIn_wide (n := 5)).1 ?_
  refine callsIn_of_wp_marks Tryz.func244 rfl trivial ?_ rfl
  simp only [Tryz.ntmps244, List.size_toArray, List.length_cons, List.length_nil, Nat.reduceAdd, Nat.reduceSub, Array.replicate_succ, Array.replicate_zero, List.push_toArray, List.append_toArray, List.nil_append, List.cons_append]
  obtain ⟨c, hc⟩ : ∃ c, c = w.heap.size := ⟨_, rfl⟩
  obtain ⟨W0, hW0⟩ : ∃ W, W = w.alloc (.cells #[.slice none 0 0] 22) := ⟨_, rfl⟩
  have bO : Boxed W0 c 22 (.slice none 0 0) := by rw [hW0, hc]; exact Boxed.new w _ _
  have hz : W0.heap.size = c + 1 := by rw [hW0, hc]; simp
  have hB0 : Below c w W0 := by rw [hW0, hc]; exact (Below.refl _ _).alloc (Nat.le_refl _) _
  have hS0 := hS.below (show Below w.heap.size w W0 by rw [← hc]; exact hB0)
  have bs0 : Boxed W0 bs 22 (.slice A n cap) := (hB0.block bs (by rw [hc]; exact hbs.lt)).trans hbs
  have hbc : bs < c := by rw [hc]; exact hbs.lt
  replace hz := Lib.hid hz
  have hc' := Lib.hid hc
  replace hbs := Lib.hid hbs
  replace hS := Lib.hid hS
  rw [← hc]
  gi_wp2
  rw [← hW0]
  clear hW0
  rw [← hc]
  clear hc
  refine range_enterI (by decide) (gf := 162) (lb := #[.pointer (some ⟨bs, 0, none⟩)]) (by simp [Act.eval]) (enters_of Tryz.func162 (by kernel_rfl) rfl) ?_
  intro fn rc hrc
  obtain ⟨D, hD⟩ : ∃ D, D = W0.heap.size := ⟨_, rfl⟩
  have hDc : D = c + 1 := by rw [hD]; exact hz.out
  have hJ0 : SeqI w zs c (D + 1) D (rc .ready none) 0 ((W0.alloc (.deferred (some []))).alloc (.loop (rc .ready none))) := by
    refine ⟨_, (bO.alloc _).alloc _, by rw [List.take_zero]; exact OwnE.nil _ _, ?_, ?_, (hB0.alloc (by omega) _).alloc (by simp; omega) _⟩
    · have := World.alloc_heap_new (W0.alloc (.deferred (some []))) (.loop (rc .ready none))
      rw [World.size_alloc, ← hD] at this
      exact this
    · rw [hD]; exact (Below.heap_alloc _ _ _ (by simp)).trans (World.alloc_heap_new W0 _)
  have bsE : Boxed ((W0.alloc (.deferred (some []))).alloc (.loop (rc .ready none))) bs 22 (.slice A n cap) := (bs0.alloc _).alloc _
  rw [← hD]
  obtain ⟨We, hWe⟩ : ∃ W, W = (W0.alloc (.deferred (some []))).alloc (.loop (rc .ready none)) := ⟨_, rfl⟩
  rw [← hWe] at hJ0 bsE ⊢
  replace hDc := Lib.hid hDc
  clear hWe hB0 bO hS0 bs0 hD
  refine (valuesI1_in 4 (by decide) (D + 1) bs A n cap zs hn hS.out.1 (SeqI w zs c (D + 1) D (rc .ready none)) ?hY ?hR We bsE hJ0).mono ?_
  case hR =>
    rintro k W ⟨v, _, _, _, _, hB⟩
    exact hS.out.below (by rw [← hc'.out]; exact hB)
  case hY =>
    rintro k z W hzk ⟨v, hv, hown, hl, hD, hB⟩
    have hy := run_yield (P := Tryz.prog) (args := #[.int .i64 z]) hl (by rw [hrc]; rfl)
    rw [hrc] at hy
    refine ⟨_, _, _, _, hy, roundIn_of_wpIn trivial ?_⟩
    clear hy
    replace hrc := Lib.hid hrc
    simp only [List.zip, Array.zip, List.foldl]
    have htk := Lib.hid (show zs.take (k + 1) = zs.take k ++ [z] by rw [List.take_add_one, hzk]; rfl)
    have hkn := Lib.hid (show (zs.take k).length + 1 ≤ 100000 by
      have := (List.getElem?_eq_some_iff.1 hzk).1
      have := hS.out.1
      rw [List.length_take]; omega)
    obtain ⟨pre, hpre⟩ : ∃ pre, pre = zs.take k := ⟨_, rfl⟩
    rw [← hpre] at htk hkn hown
    clear hpre
    gi_wp2
    refine ⟨_, run_beginRound hl (by rw [hrc.out]), ?_⟩
    obtain ⟨busy, hbusy⟩ : ∃ o : Loop, o = { rc .ready none with state := .busy } := ⟨_, rfl⟩
    rw [← hbusy]
    obtain ⟨Wb, hWb⟩ : ∃ X, X = W.putObj (D + 1) (.loop busy) := ⟨_, rfl⟩
    rw [← hWb]
    have hlt1 := (Array.getElem?_eq_some_iff.1 hl).1
    have hcl := hDc.out
    have hg2 : W.grownBy Wb (some (D + 1)) := by rw [hWb]; exact grownBy_putObj' _ _ _
    have hvb : Boxed Wb c 22 v := hv.kept hg2 (by intro e; have := Option.some.inj e; omega)
    have hownb : OwnE eInt 3 (c + 1) Wb v pre := by rw [hWb]; exact ownsRow_putObj hown _ hl rfl
    have hlb : Wb.heap[D + 1]? = some (.loop busy) := by rw [hWb]; exact World.putObj_heap_same hlt1
    have hDb : Wb.heap[D]? = some (.deferred (some [])) := by rw [hWb]; exact (World.putObj_heap_other (by omega)).trans hD
    have hszb : Wb.heap.size = W.heap.size := by rw [hWb]; simp
    have hBb : Below c w Wb := by rw [hWb]; exact hB.grown (grownBy_putObj' _ _ _) (by have := hv.lt; omega) (fun k e => by have := Option.some.inj e; omega)
    obtain ⟨A', cp, rfl, _⟩ := hown.sl
    have hcc := hvb.cell
    have hvl := hvb.lt
    clear hWb hg2 hv hown hB hzk
    gi_wp2_with (gi_at_builtin; refine wpListIn_appI tyeInt rfl _ _ rfl (c + 1) _ pre [z] rfl (hownb.below ((Below.refl _ _).alloc (Nat.le_refl _) _)) ⟨_, 0, none⟩ 1 1 rfl rfl ?c1 ?c2 ?c3 ?_)
    case c1 => intro j u hj; first | exact hj | (rw [Enc.cells_single] at hj; exact hj)
    case c2 => have := hkn.out; omega
    case c3 => omega
    intro v' w3 hown3 hg3 hd3
    have hne3 : some c ≠ (Value.slice A' pre.length cp).ownBlock := fun e => by have := hownb.lt _ e.symm; omega
    have hv3 : Boxed w3 c 22 (.slice A' pre.length cp) := (hg3.block c (by simp; omega) hne3).trans ((Below.heap_alloc _ _ _ hvl).trans hvb)
    have hl3 : w3.heap[D + 1]? = some (.loop busy) := (hg3.block _ (by simp; omega) (fun e => by
      obtain ⟨cs, hcs⟩ := own_cells hownb e.symm
      rw [hlb] at hcs; cases hcs)).trans ((Below.heap_alloc _ _ _ (by omega)).trans hlb)
    have hD3 : w3.heap[D]? = some (.deferred (some [])) := (hg3.block _ (by simp; omega) (fun e => by
      obtain ⟨cs, hcs⟩ := own_cells hownb e.symm
      rw [hDb] at hcs; cases hcs)).trans ((Below.heap_alloc _ _ _ (by omega)).trans hDb)
    have hB3 : Below c w w3 := (hBb.alloc (by omega) _).grown hg3 (by simp; omega) (fun k h => by have := (hownb.lt k h).1; omega)
    have hf3 := hv3.frozen
    have hc3 := hv3.cell
    obtain ⟨g', cp', hv', _⟩ := hown3.form (by simp)
    rw [show (pre ++ [z]).length = pre.length + 1 by simp] at hv'
    obtain ⟨L, hL⟩ : ∃ L, L = pre.length + 1 := ⟨_, rfl⟩
    rw [← hL] at hv'
    subst hv'
    clear hL
    replace hown3 := Lib.hid hown3
    clear hg3 hd3 hownb hlb hDb hBb hcc hvb hne3
    gi_wp2
    have hvS := hv3.set (.slice (some ⟨g', 0, none⟩) L cp')
    have hlS : (w3.setCell ⟨c, 0, none⟩ (.slice (some ⟨g', 0, none⟩) L cp')).heap[D + 1]? = some (.loop busy) := (Below.heap_setCell _ _ _ _ (by show D + 1 ≠ c; omega)).trans hl3
    have hDS : (w3.setCell ⟨c, 0, none⟩ (.slice (some ⟨g', 0, none⟩) L cp')).heap[D]? = some (.deferred (some [])) := (Below.heap_setCell _ _ _ _ (by show D ≠ c; omega)).trans hD3
    have hBS := hB3.setCell (p := ⟨c, 0, none⟩) (Nat.le_refl _) (.slice (some ⟨g', 0, none⟩) L cp')
    have hoS : OwnE eInt 3 (c + 1) (w3.setCell ⟨c, 0, none⟩ (.slice (some ⟨g', 0, none⟩) L cp')) (.slice (some ⟨g', 0, none⟩) L cp') (pre ++ [z]) := own_gbI hown3.out (grownBy_setCell' w3 c (.slice (some ⟨g', 0, none⟩) L cp')) (fun r e he => by have := Option.some.inj e; have := hown3.out.lt r he; omega)
    have hltS := (Array.getElem?_eq_some_iff.1 hlS).1
    refine ⟨_, _, run_endRound none hlS, rfl, .slice (some ⟨g', 0, none⟩) L cp', ?_, ?_, ?_, ?_, ?_⟩
    · exact hvS.kept (grownBy_putObj' _ _ _) (by intro e; have := Option.some.inj e; omega)
    · rw [htk.out]; exact ownsRow_putObj hoS _ hlS rfl
    · rw [hbusy, hrc.out]; exact World.putObj_heap_same hltS
    · exact (World.putObj_heap_other (by omega)).trans hDS
    · exact hBS.grown (grownBy_putObj' _ _ _) (by omega) (fun k e => by have := Option.some.inj e; omega)
  · rintro e W2 ⟨⟨v0, rfl⟩, v', hv, hown, hl, hD, hBel⟩
    rw [hS.out.1, List.take_length] at hown
    have hel := run_endLoop (P := Tryz.prog) hl (by rw [hrc]; simp)
    obtain ⟨W3, hW3⟩ : ∃ X, X = W2.putObj (D + 1) (.loop { rc .ready none with state := .exhausted }) := ⟨_, rfl⟩
    rw [← hW3] at hel
    refine ⟨none, W3, by rw [hel, hrc], ?_⟩
    have hcl := hDc.out
    have hg := grownBy_putObj' W2 (D + 1) (.loop { rc .ready none with state := .exhausted })
    rw [← hW3] at hg
    have hv3 := hv.kept hg (by intro e; have := Option.some.inj e; omega)
    have hown3 : OwnE eInt 3 (c + 1) W3 v' zs := by rw [hW3]; exact ownsRow_putObj hown _ hl rfl
    have hD3 : W3.heap[D]? = some (.deferred (some [])) := by rw [hW3]; exact (World.putObj_heap_other (by omega)).trans hD
    have hB3 : Below c w W3 := hBel.grown hg (by have := hv.lt; omega) (fun k e => by have := Option.some.inj e; omega)
    obtain ⟨A', cp, rfl, hsl⟩ := hown3.sl
    have hcc := hv3.cell
    clear hv hown hl hD hBel hg hW3 hel
    gi_wp2
    rw [hcl] at hD3
    refine ⟨by simp, .inl ⟨_, _, rfl, run_takeDeferred hD3, ?_⟩⟩
    have hgF := grownBy_putObj' W3 (c + 1) (.deferred none)
    have hBf := hB3.grown hgF (by have := hv3.lt; omega) (fun k e => by have := Option.some.inj e; omega)
    refine ⟨.slice A' zs.length cp, ?_, ⟨_, rfl, OwnE.mono (ownsRow_putObj hown3 _ hD3 rfl) (by have := hc'.out; omega)⟩, hBf⟩
    simp [results, Tryz.results244, go_sem]
theorem collectI_any (bs : Nat) (A : Option Addr) (n cap : Nat) (zs : List Int) (w : World) (hS : SlE eInt w A n cap zs) (hbs : Boxed w bs 22 (.slice A n cap)) (hn : n ≤ 100000) :
    Calls Tryz.prog 160 #[.func (.func 162) #[] #[.pointer (some ⟨bs, 0, none⟩)]] w fun e w' => (∃ v, e = .returned v ∧ OwnE eInt 3 w.heap.size w' v zs) ∧ Below w.heap.size w w' := by
  have HA := Lib.hid (appendSeqI_any bs A n cap zs w hS hbs hn)
  clear hS hbs
  go_enter Tryz.func160, Tryz.ntmps160
  go_wp2_with fail
  refine HA.out.mono ?_
  rintro e w1 ⟨⟨v, rfl, hown⟩, hb⟩
  go_wp2_with fail
  go_ret
  exact ⟨⟨v, rfl, hown⟩, hb⟩
end Go.Proofs.YtfiocnjogbpgoaaGreatDoor
