/- Tables: Differ. -/
import Derived.Test.YtfbggfpihiegpaaGreatDoorKpGzA
import Derived.Test.YtfbggfpihiegpaaGreatDoorKpTbD
import Derived.Test.YtfbggfpihiegpaaGreatDoorKpSvG
import Derived.Test.YtfbggfpihiegpaaGreatDoorKpSuD
set_option linter.unusedVariables false
set_option linter.unusedSimpArgs false
set_option maxRecDepth 100000
namespace Go.Proofs.YtfbggfpihiegpaaGreatDoor
open Go.RowKit

def zEn : Value := .agg #[.bool false, .int .u64 0, .int .u64 0, .int .i64 0, .string ⟨#[]⟩]
theorem infoEn : (Tryz.prog.info? 43).map (fun i => (i.zero, i.size, i.bytes)) = some (some zEn, 5, 48) := by kernel_rfl
theorem tyeEn : Ty eEn 43 26 zEn 48 := ⟨Tryz.underlying26, infoEn, rfl, by decide⟩
section
variable (ρ : Operand → Value) (dst : Option Tmp) (x : Operand) (ty : TypeId) (pos : String) (after : Array Edge) (guard : Option (Nat × Bool))
@[go_sem ↓ high] theorem execOp_bsEn : execOp ρ ⟨dst, .buildSlice 26 1 #[(0, x)], ty, pos, after, guard⟩ = bsT 26 (ρ x) := by
  simp only [execOp, bsT, List.map_toArray, List.map_cons, List.map_nil]
@[go_sem high] theorem execOp_bsEn' : execOp ρ ⟨dst, .buildSlice 26 1 #[(0, x)], ty, pos, after, guard⟩ = bsT 26 (ρ x) := by
  simp only [execOp, bsT, List.map_toArray, List.map_cons, List.map_nil]
end
@[go_sem] theorem run_bsEn (x : En) (w : World) : (bsT 26 (.agg (enC x).toArray)).run Tryz.prog w = .ok (.value (.slice (some ⟨w.heap.size, 0, none⟩) 1 1)) (w.alloc (.cells (enC x).toArray 43)) :=
  bsT_run Tryz.underlying26 infoEn (by decide) (by decide) (by kernel_rfl) w

def rgT (t : List En) : List (Ad × Ad) := t.map fun x => rgP x.p

set_option maxHeartbeats 4000000 in
theorem reaches_any (A : Option Addr) (n cap : Nat) (t : List En) (w : World) (hS : SlE eEn w A n cap t) (hn : n ≤ 100000) (hR : ∀ x ∈ t, x.p.R) :
    Calls Tryz.prog 26 #[.slice A n cap] w fun e w' => ∃ v, e = .returned v ∧ OwnE eRg 107 w.heap.size w' v (rgT t) ∧ Below w.heap.size w w' := by
  have hpl := Lib.hid hS.1
  replace hS := Lib.hid hS
  replace hR := Lib.hid hR
  go_enter Tryz.func26, Tryz.ntmps26
  go_wp2_with fail
  go_loopw [3, 8] (fun o i wr => ∃ k : Nat, k ≤ n ∧ i = .int .i64 k ∧ OwnE eRg 107 w.heap.size wr o ((rgT t).take k) ∧ Below w.heap.size w wr) (fun _ i _ => n - (intOf i).toNat)
  case atStart => exact ⟨0, by omega, rfl, OwnE.nil _ _, Below.refl _ _⟩
  case round =>
    obtain ⟨k, hk, rfl, hown, hbw⟩ := hrel
    by_cases hlt : k < n
    · skip
      obtain ⟨x, hx⟩ : ∃ x, t[k]? = some x := ⟨t[k]'(by have := hpl.out; omega), List.getElem?_eq_getElem _⟩
      obtain ⟨g0, off, rfl, hg0, hc0⟩ := hS.out.at' hlt
      have hld := SlE.ld rowEn (hS.out.below hbw) hx
      replace hld : (ldT 43 (.pointer (some ⟨g0, off + k * 5, none⟩))).run Tryz.prog wr = .ok (.value (enA x)) wr := hld
      have hpR := hR.out x (List.mem_of_getElem? hx)
      have hlt' : (k : Int) < n := by omega
      have hsw := hbw.size
      have hl2 := Lib.hid (show ((rgT t).take k).length ≤ n by rw [List.length_take]; omega)
      have htk := Lib.hid (show (rgT t).take (k + 1) = (rgT t).take k ++ [rgP x.p] by unfold rgT; rw [List.take_add_one, List.getElem?_map, hx]; rfl)
      have S1 := stT_new rowEn (te := 43) wr wr.heap.size rfl [.bool false, .int .u64 0, .int .u64 0, .int .i64 0, .string ⟨#[]⟩] (enC x) rfl rfl (enC_one x)
      clear hc0 hx
      have hC := Blk.new wr (enC x) 43
      replace hown := hown.alloc' (.cells (enC x).toArray 43)
      replace hbw := hbw.alloc hsw (.cells (enC x).toArray 43)
      have HR := fun w' => Lib.hid (rangeOf_R x.p w' hpR)
      have l1 := hC.ldAt rowPf 0 (pfC x.p) [.string ⟨x.nm.toArray⟩] rfl rfl
      go_wp2_with fail
      refine (HR _).out.mono ?_
      rintro e w2 ⟨rfl, hb2⟩
      replace hown := hown.below hb2
      replace hbw := hbw.trans (hb2.mono hbw.size)
      clear hb2 l1 hC S1
      have hz := hbw.size
      go_wp2_with (at_builtin; refine wpList_app tyeRg rfl _ _ rfl w.heap.size _ _ [rgP x.p] rfl (hown.alloc' _) ⟨_, 0, none⟩ 1 1 rfl rfl ?c1 ?c2 ?c3 ?_)
      case c1 => exact cell_row_at _ _ _ _ rfl
      case c2 => have := hl2.out; simp only [List.length_singleton]; omega
      case c3 => first | omega | (simp; done) | (simp; omega)
      intro v3 x3 hown3 hg3 _
      have hb3 : Below w.heap.size w x3 := (hbw.alloc hbw.size _).grown hg3 (by first | omega | (simp; done) | (simp; omega)) (fun k h => (hown.lt k h).1)
      clear hg3 hown hbw
      go_wp2_with fail
      go_roundw
      case rel => exact ⟨k + 1, by omega, by go_num, by rw [htk.out]; exact hown3, hb3⟩
      case measure => simp [intOf]; omega
    · have hkn : k = n := by omega
      have htk := List.take_of_length_le (show (rgT t).length ≤ k by unfold rgT; rw [List.length_map]; have := hpl.out; omega)
      rw [htk] at hown
      replace hown := Lib.hid hown
      clear htk hkn
      go_wp2_with fail
      go_ret
      exact ⟨_, rfl, hown.out, hbw⟩

def pfE2 (p q : Pf) : Bool := pfQ p.1.s q.1.s p.1.hi p.1.lo q.1.hi q.1.lo p.2 q.2
theorem pfE2_dec (p q : Pf) : pfE2 p q = decide (p = q) := by
  obtain ⟨⟨s, a, b⟩, n⟩ := p
  obtain ⟨⟨t, c, d⟩, m⟩ := q
  unfold pfE2 pfQ
  rw [Bool.eq_iff_iff]
  simp [Ad.mk.injEq, and_assoc]
theorem run_nePfP (x y : Operand) (p q : Pf) (w : World) : (nePf x y (.agg (pfC p).toArray) (.agg (pfC q).toArray)).run Tryz.prog w = .ok (.value (.bool (!pfE2 p q))) w :=
  run_nePf x y p.1.s q.1.s p.1.hi p.1.lo q.1.hi q.1.lo p.2 q.2 w

set_option maxHeartbeats 1000000 in
theorem around_any (x : En) (p : Pf) (g : Nat) (w : World) (hp : p.R) (hx : x.p.R) (h : Blk w g (enC x) 43) :
    Calls Tryz.prog 22 #[pfA p, .pointer (some ⟨g, 0, none⟩)] w (GivesV (.bool (supB x.p p)) w) := by
  obtain ⟨⟨p1, p2⟩, ⟨p3, p4⟩⟩ := hp.1.1
  obtain ⟨⟨q1, q2⟩, ⟨q3, q4⟩⟩ := hx.1.1
  have H1 := fun w' => Lib.hid (inside_any x.p.1.s x.p.1.hi x.p.1.lo x.p.2 p.1.s p.1.hi p.1.lo p.2 w' q1 q2 q3 q4 p1 p2 p3 p4 hp.2.1 hp.2.2.1)
  have N1 := fun a b w' => run_nePfP a b p x.p w'
  have hV : supB x.p p = (!pfE2 p x.p && insP x.p p) := by
    unfold supB
    rw [pfE2_dec, decide_not]
  rw [hV]
  obtain ⟨I, hI⟩ : ∃ I, I = insP x.p p := ⟨_, rfl⟩
  replace H1 : ∀ w', Hid (Calls Tryz.prog 23 #[pfA x.p, pfA p] w' (GivesV (.bool I) w')) := by rw [hI]; exact H1
  rw [← hI]
  generalize pfE2 p x.p = E at N1 ⊢
  have hC := Blk.new w (pfC p) 41
  have hbw : Below w.heap.size w (w.alloc (.cells (pfC p).toArray 41)) := (Below.refl _ _).alloc (Nat.le_refl _) _
  replace h := Blk.below h hbw
  have k1 := hC.ld rowPf rfl
  have k2 := h.ldAt rowPf 0 (pfC x.p) [.string ⟨x.nm.toArray⟩] rfl rfl
  clear hI hV p1 p2 p3 p4 q1 q2 q3 q4 hp hx
  go_enter Tryz.func22, Tryz.ntmps22
  cases E with
  | true =>
    go_wp2_with fail
    go_ret
    exact ⟨rfl, hbw⟩
  | false =>
    go_wp2_with fail
    refine (H1 _).out.mono ?_
    rintro e w1 ⟨rfl, hb1⟩
    replace hbw := hbw.trans (hb1.mono hbw.size)
    go_wp2_with fail
    go_ret
    exact ⟨by simp, hbw⟩

def enQ (x y : En) : Bool := pfE2 x.p y.p && x.nm == y.nm
theorem enQ_iff (x y : En) : enQ x y = true ↔ x = y := by
  obtain ⟨a, b⟩ := x
  obtain ⟨a', b'⟩ := y
  unfold enQ
  rw [pfE2_dec]
  simp
theorem ifChainE {P : Prop} [Decidable P] {X : Result Bool} {q c : Bool} {w : World} (hc : c = true ↔ P) (h : X = .ok q w) : (if P then X else .ok false w) = .ok (c && q) w := by
  by_cases hp : P
  · rw [if_pos hp, h, hc.2 hp, Bool.true_and]
  · have : c = false := by rw [Bool.eq_false_iff]; exact fun k => hp (hc.1 k)
    rw [if_neg hp, this, Bool.false_and]

set_option maxHeartbeats 2000000 in
theorem en_equalIn (x y : En) (w : World) : (Op.equalIn 10000 43 (.agg (enC x).toArray) (.agg (enC y).toArray)).run Tryz.prog w = .ok (enQ x y) w := by
  unfold enC
  rw [show (10000 : Nat) = 9999 + 1 from rfl, run_equalIn_agg w 9999 43 _ _ (by kernel_rfl) (by kernel_rfl)]
  simp only [Program.fieldsOf, Tryz.underlying43]
  go_simp
  have e : enQ x y = (x.p.1.s == y.p.1.s && (x.p.1.hi == y.p.1.hi && (x.p.1.lo == y.p.1.lo && (x.p.2 == y.p.2 && (x.nm == y.nm && true))))) := by
    unfold enQ pfE2 pfQ
    simp only [Bool.and_assoc, Bool.and_true]
  rw [e]
  clear e
  iterate 5 refine ifChainE beq_iff_eq ?_
  rfl
def neEn (x y : Operand) (a b : Value) : Sem Next := do
  let v ← (do eqGuard .neq 43 x y a b; binOp .neq 43 a b)
  pure (.value v)
@[go_sem ↓ high] theorem execOp_neEn' (ρ : Operand → Value) (dst : Option Tmp) (x y : Operand) (r ty : TypeId) (pos : String) (after : Array Edge) (guard : Option (Nat × Bool)) :
    execOp ρ ⟨dst, .binOp .neq 43 x y r, ty, pos, after, guard⟩ = neEn x y (ρ x) (ρ y) := rfl
@[go_sem high] theorem execOp_neEn (ρ : Operand → Value) (dst : Option Tmp) (x y : Operand) (r ty : TypeId) (pos : String) (after : Array Edge) (guard : Option (Nat × Bool)) :
    execOp ρ ⟨dst, .binOp .neq 43 x y r, ty, pos, after, guard⟩ = neEn x y (ρ x) (ρ y) := rfl
@[go_sem] theorem run_neEn (x y : Operand) (a b : En) (w : World) : (neEn x y (.agg (enC a).toArray) (.agg (enC b).toArray)).run Tryz.prog w = .ok (.value (.bool (!enQ a b))) w := by
  unfold neEn
  simp only [Sem.run_bind, run_neq_struct, en_equalIn, run_eqGuard_agg _ _ _ _ _ _ _ Tryz.eqGuardType43, Result.andThen_ok, Sem.run_pure]

theorem SlE.keepE {α : Type} {E : Enc α} {w u : World} {A : Option Addr} {n cap : Nat} {xs : List α} (h : SlE E w A n cap xs) (hu : w.grownBy u none) : SlE E u A n cap xs := h.below (gb2B hu)

set_option maxHeartbeats 2000000 in
theorem equalEn_any (A A' : Option Addr) (n m cap cap' : Nat) (xs ys : List En) (w : World) (hS : SlE eEn w A n cap xs) (hS' : SlE eEn w A' m cap' ys) (hn : n ≤ 1000000) (hm : m ≤ 1000000) :
    Calls Tryz.prog 9 #[.slice A n cap, .slice A' m cap'] w fun e w' => ∃ b, e = .returned (.bool b) ∧ (b = true ↔ xs = ys) ∧ Below w.heap.size w w' := by
  have hl := Lib.hid hS.1
  have hl' := Lib.hid hS'.1
  have hS := Lib.hid hS
  have hS' := Lib.hid hS'
  by_cases hnm : n = m
  · subst hnm
    go_enter Tryz.func9, Tryz.ntmps9
    go_wp2_with fail
    go_loopw [13] (fun i wr => ∃ k : Nat, k ≤ n ∧ i = .int .i64 k ∧ Hid (xs.take k = ys.take k) ∧ Below w.heap.size w wr) (fun i _ => n - (intOf i).toNat)
    case atStart => exact ⟨0, by omega, rfl, Lib.hid rfl, Below.refl _ _⟩
    case round =>
      obtain ⟨k, hk, rfl, htk, hbw⟩ := hrel
      by_cases hlt : k < n
      · obtain ⟨x, hx⟩ : ∃ x, xs[k]? = some x := ⟨xs[k]'(by have := hl.out; omega), List.getElem?_eq_getElem _⟩
        obtain ⟨y, hy⟩ : ∃ y, ys[k]? = some y := ⟨ys[k]'(by have := hl'.out; omega), List.getElem?_eq_getElem _⟩
        obtain ⟨g0, off, rfl, _, _⟩ := hS.out.at' hlt
        obtain ⟨g1, off', rfl, _, _⟩ := hS'.out.at' hlt
        have hlt' : (k : Int) < n := by omega
        have HQ := Lib.hid (enQ_iff x y)
        have hx := Lib.hid hx
        have hy := Lib.hid hy
        go_wp2_with fail
        refine wx_begin (none) [] (by kernel_rfl) (fun u0 hb0' hz0' => ?_)
        replace hbw := hbw.trans (hb0'.mono hbw.size)
        clear hb0' hz0'
        refine wx_pureZ 0 (some 16) (v := ?_) ?_ ?_; rotate_left; · (intro u; go_simp; try with_reducible rfl)
        try simp only [Act.put, gzD, gzE, gzF]
        refine wx_pureZ 1 (some 17) (v := ?_) ?_ ?_; rotate_left; · (intro u; go_simp; try with_reducible rfl)
        try simp only [Act.put, gzD, gzE, gzF]
        refine wx_pureZ 2 (some 18) (v := ?_) ?_ ?_; rotate_left; · (intro u; go_simp; try with_reducible rfl)
        try simp only [Act.put, gzD, gzE, gzF]
        refine wx_takeZ 3 (some 19) (v := ?_) ?_ ?_; rotate_left; · (intro u hu; have k1 := SlE.ld (E := eEn) rowEn ((hS.out.below hbw).keepE hu) hx.out; have k2 := SlE.ld (E := eEn) rowEn ((hS'.out.below hbw).keepE hu) hy.out; replace k1 : (ldT 43 (.pointer (some ⟨g0, off + k * 5, none⟩))).run Tryz.prog u = .ok (.value (.agg (enC x).toArray)) u := k1; replace k2 : (ldT 43 (.pointer (some ⟨g1, off' + k * 5, none⟩))).run Tryz.prog u = .ok (.value (.agg (enC y).toArray)) u := k2; go_simp; try with_reducible rfl)
        try simp only [Act.put, gzD, gzE, gzF]
        refine wx_pureZ 4 (some 20) (v := ?_) ?_ ?_; rotate_left; · (intro u; go_simp; try with_reducible rfl)
        try simp only [Act.put, gzD, gzE, gzF]
        refine wx_pureZ 5 (some 21) (v := ?_) ?_ ?_; rotate_left; · (intro u; go_simp; try with_reducible rfl)
        try simp only [Act.put, gzD, gzE, gzF]
        refine wx_pureZ 6 (some 22) (v := ?_) ?_ ?_; rotate_left; · (intro u; go_simp; try with_reducible rfl)
        try simp only [Act.put, gzD, gzE, gzF]
        refine wx_takeZ 7 (some 23) (v := ?_) ?_ ?_; rotate_left; · (intro u hu; have k1 := SlE.ld (E := eEn) rowEn ((hS.out.below hbw).keepE hu) hx.out; have k2 := SlE.ld (E := eEn) rowEn ((hS'.out.below hbw).keepE hu) hy.out; replace k1 : (ldT 43 (.pointer (some ⟨g0, off + k * 5, none⟩))).run Tryz.prog u = .ok (.value (.agg (enC x).toArray)) u := k1; replace k2 : (ldT 43 (.pointer (some ⟨g1, off' + k * 5, none⟩))).run Tryz.prog u = .ok (.value (.agg (enC y).toArray)) u := k2; go_simp; try with_reducible rfl)
        try simp only [Act.put, gzD, gzE, gzF]
        refine wx_pureZ 8 (some 24) (v := ?_) ?_ ?_; rotate_left; · (intro u; go_simp; try with_reducible rfl)
        try simp only [Act.put, gzD, gzE, gzF]
        refine wx_done (by kernel_rfl) ?_ _
        skip
        generalize enQ x y = q at *
        cases q
        · have hne := Lib.hid (show ¬ xs = ys from fun e => by
            have h1 := hx.out
            rw [e, hy.out] at h1
            injection h1 with h1
            have := HQ.out.2 h1.symm
            cases this)
          go_wp2_with fail
          go_ret
          exact ⟨false, rfl, ⟨fun h => by (first | exact h.elim | cases h), fun h => absurd h hne.out⟩, hbw⟩
        · have hxy := HQ.out.1 rfl
          have htk2 := Lib.hid (show xs.take (k + 1) = ys.take (k + 1) by rw [List.take_add_one, List.take_add_one, htk.out, hx.out, hy.out, hxy])
          clear hxy HQ
          go_wp2_with fail
          go_roundw
          case rel => exact ⟨k + 1, by omega, by go_num, htk2, hbw⟩
          case measure => simp [intOf]; omega
      · have he := Lib.hid (show xs = ys by
          have h1 := htk.out
          rwa [List.take_of_length_le (by have := hl.out; omega), List.take_of_length_le (by have := hl'.out; omega)] at h1)
        go_wp2_with fail
        go_ret
        exact ⟨true, rfl, ⟨fun _ => he.out, fun _ => rfl⟩, hbw⟩
  · have h0 : ((n : Int) == (m : Int)) = false := by rw [beq_eq_false_iff_ne]; omega
    have hne := Lib.hid (show ¬ xs = ys from fun e => by have h1 := hl.out; have h2 := hl'.out; rw [e] at h1; omega)
    clear hnm
    go_enter Tryz.func9, Tryz.ntmps9
    go_wp2_with fail
    go_ret
    exact ⟨false, rfl, ⟨fun h => by (first | exact h.elim | cases h), fun h => absurd h hne.out⟩, Below.refl _ _⟩

theorem tabG_good : ∀ (t : List En) (p : Option En), (∀ x ∈ t, x.p.1.U) → tabG p t = 0 → ∀ x ∈ t, x.p.R ∧ keyB x.nm = true
  | [], _, _, _, x, hx => by cases hx
  | y :: l, p, hU, h, x, hx => by
    unfold tabG at h
    split at h
    · next h1 =>
      split at h
      · next h2 =>
        split at h
        · omega
        · rcases List.mem_cons.1 hx with rfl | hx
          · exact ⟨(pfE_iff (hU x List.mem_cons_self)).1 h1, h2⟩
          · exact tabG_good l _ (fun z hz => hU z (List.mem_cons_of_mem _ hz)) h x hx
      · omega
    · next h1 => exact absurd h h1
theorem tabF_good {t : List En} (hU : ∀ x ∈ t, x.p.1.U) (h : tabF t = 0) : ∀ x ∈ t, x.p.R ∧ keyB x.nm = true := by
  unfold tabF at h
  split at h
  · omega
  · exact tabG_good t none hU h
def sqK (t : List En) (k : Nat) : List En := (t.take k).filter fun x => decide (aroT t x ≠ x.nm)

set_option maxHeartbeats 4000000 in
theorem squeeze_ok (A : Option Addr) (n cap : Nat) (t : List En) (w : World) (hS : SlE eEn w A n cap t) (hn : n ≤ 100000) (hU : ∀ x ∈ t, x.p.1.U) (h0 : tabF t = 0) :
    Calls Tryz.prog 6 #[.slice A n cap] w fun e w' => ∃ v, e = .returned (.tuple #[v, .int .i64 0]) ∧ OwnE eEn 43 w.heap.size w' v (sqT t) ∧ Below w.heap.size w w' := by
  have hpl := Lib.hid hS.1
  have hR := Lib.hid (fun x hx => (tabF_good hU h0 x hx).1)
  have HC := Lib.hid (checkTable_any 0 A n cap t w hS hn hU h0.symm)
  replace hS := Lib.hid hS
  clear hU h0
  go_enter Tryz.func6, Tryz.ntmps6
  go_wp2_with fail
  refine HC.out.mono ?_
  rintro e w0 ⟨rfl, hb0⟩
  clear HC
  go_wp2_with fail
  go_loopw [5, 16] (fun o i wr => ∃ k : Nat, k ≤ n ∧ i = .int .i64 k ∧ OwnE eEn 43 w.heap.size wr o (sqK t k) ∧ Below w.heap.size w wr) (fun _ i _ => n - (intOf i).toNat)
  case atStart => exact ⟨0, by omega, rfl, OwnE.nil _ _, hb0⟩
  case round =>
    obtain ⟨k, hk, rfl, hown, hbw⟩ := hrel
    clear hb0
    by_cases hlt : k < n
    · skip
      obtain ⟨x, hx⟩ : ∃ x, t[k]? = some x := ⟨t[k]'(by have := hpl.out; omega), List.getElem?_eq_getElem _⟩
      obtain ⟨g0, off, rfl, hg0, hc0⟩ := hS.out.at' hlt
      have hS1 := hS.out.below hbw
      have hld := SlE.ld rowEn hS1 hx
      replace hld : (ldT 43 (.pointer (some ⟨g0, off + k * 5, none⟩))).run Tryz.prog wr = .ok (.value (enA x)) wr := hld
      have hxR := hR.out x (List.mem_of_getElem? hx)
      have hlt' : (k : Int) < n := by omega
      have hsw := hbw.size
      have hl2 := Lib.hid (show (sqK t k).length ≤ n by
        unfold sqK
        have h1 := List.length_filter_le (fun x => decide (aroT t x ≠ x.nm)) (t.take k)
        rw [List.length_take] at h1
        omega)
      have htk := Lib.hid (show (sqK t (k + 1)) = (sqK t k) ++ (if aroT t x = x.nm then [] else [x]) by
        unfold sqK
        rw [List.take_add_one, hx, List.filter_append]
        by_cases h : aroT t x = x.nm
        · simp [h]
        · simp [h])
      have S1 := stT_new rowEn (te := 43) wr wr.heap.size rfl [.bool false, .int .u64 0, .int .u64 0, .int .i64 0, .string ⟨#[]⟩] (enC x) rfl rfl (enC_one x)
      clear hc0 hx
      have hC := Blk.new wr (enC x) 43
      have hvA : Below wr.heap.size wr (wr.alloc (.cells (enC x).toArray 43)) := (Below.refl _ _).alloc (Nat.le_refl _) _
      replace hown := hown.alloc' (.cells (enC x).toArray 43)
      replace hbw := hbw.alloc hsw (.cells (enC x).toArray 43)
      have HL := Lib.hid (longestT_any 22 wr.heap.size (supB x.p) (some ⟨g0, off, none⟩) n cap t (wr.alloc (.cells (enC x).toArray 43)) (hS1.below hvA) hn hR.out
        (fun p W hp hW => around_any x p wr.heap.size W hp hxR (Blk.below hC hW)) (fun args w => by rfl))
      replace HL : Hid (Calls Tryz.prog 21 #[.slice (some ⟨g0, off, none⟩) n cap, .func (.func 22) #[] #[.pointer (some ⟨wr.heap.size, 0, none⟩)]] (wr.alloc (.cells (enC x).toArray 43)) (GivesV (.string ⟨(aroT t x).toArray⟩) (wr.alloc (.cells (enC x).toArray 43)))) := HL
      obtain ⟨V, hV⟩ : ∃ V, V = decide (aroT t x = x.nm) := ⟨_, rfl⟩
      obtain ⟨Y, hY⟩ : ∃ Y, Y = aroT t x := ⟨_, rfl⟩
      rw [← hY] at HL hV
      have b0 : (Y == x.nm) = V := by rw [hV]; exact (Bool.eq_iff_iff.2 (by rw [beq_iff_eq, decide_eq_true_iff]))
      rw [hY] at hV
      replace hV := Lib.hid hV
      clear hY
      clear hS1 hvA hxR
      go_wp2_with fail
      refine HL.out.mono ?_
      rintro e w2 ⟨rfl, hb2⟩
      replace hown := hown.below hb2
      replace hbw := hbw.trans (hb2.mono hbw.size)
      replace hC := hC.below hb2
      have c4 := hC.cell (i := 4) (v := .string ⟨x.nm.toArray⟩) rfl
      clear hb2 S1 HL hld
      have hz := hbw.size
      cases V with
      | true =>
        have htk2 := Lib.hid (show (sqK t (k + 1)) = (sqK t k) by
          rw [htk.out, if_pos (of_decide_eq_true hV.out.symm), List.append_nil])
        clear htk hV
        go_wp2_with fail
        go_roundw
        case rel => exact ⟨k + 1, by omega, by go_num, by rw [htk2.out]; exact hown, hbw⟩
        case measure => simp [intOf]; omega
      | false =>
        have htk2 := Lib.hid (show (sqK t (k + 1)) = (sqK t k) ++ [x] by
          rw [htk.out, if_neg (of_decide_eq_false hV.out.symm)])
        clear htk hV
        have l2 := hC.ld rowEn rfl
        go_wp2_with (at_builtin; refine wpList_app tyeEn rfl _ _ rfl w.heap.size _ _ [x] rfl (hown.alloc' _) ⟨_, 0, none⟩ 1 1 rfl rfl ?c1 ?c2 ?c3 ?_)
        case c1 => exact cell_row_at _ _ _ _ rfl
        case c2 => have := hl2.out; simp only [List.length_singleton]; omega
        case c3 => first | omega | (simp; done) | (simp; omega)
        intro v3 x3 hown3 hg3 _
        have hb3 : Below w.heap.size w x3 := (hbw.alloc hbw.size _).grown hg3 (by first | omega | (simp; done) | (simp; omega)) (fun k h => (hown.lt k h).1)
        clear hg3 hown hbw l2
        go_wp2_with fail
        go_roundw
        case rel => exact ⟨k + 1, by omega, by go_num, by rw [htk2.out]; exact hown3, hb3⟩
        case measure => simp [intOf]; omega
    · have hkn : k = n := by omega
      rw [show sqK t k = sqT t by unfold sqK; rw [List.take_of_length_le (show t.length ≤ k by have := hpl.out; omega)]; rfl] at hown
      replace hown : Hid (OwnE eEn 43 w.heap.size wr _ (sqT t)) := Lib.hid hown
      clear hkn
      go_wp2_with fail
      go_ret2
      exact ⟨_, rfl, hown.out, hbw⟩

set_option maxHeartbeats 4000000 in
theorem lookup_any (E : Int) (A : Option Addr) (n cap : Nat) (t : List En) (a : Ad) (w : World) (hS : SlE eEn w A n cap t) (hn : n ≤ 100000) (hU : ∀ x ∈ t, x.p.1.U) (ha : a.U) (hE : firstZ [tabF t, adF a.s a.hi a.lo] = E) :
    Calls Tryz.prog 8 #[.slice A n cap, adA a] w fun e w' => ∃ s : List UInt8, e = .returned (.tuple #[.string ⟨s.toArray⟩, .bool (!s.isEmpty), .int .i64 E]) ∧ (E = 0 → s = lookT t a.n) ∧ (E ≠ 0 → s = []) ∧ Below w.heap.size w w' := by
  have HT := Lib.hid (fun W (hW : Below w.heap.size w W) => checkTable_any (tabF t) A n cap t W (hS.below hW) hn hU rfl)
  have HA := Lib.hid (fun W => checkAddr_any a.s a.hi a.lo W)
  have HL := Lib.hid (fun W (hW : Below w.heap.size w W) (h0 : E = 0) => look_any a A n cap t W (hS.below hW) hn (fun x hx => (tabF_good hU ((firstZ_both _ _).1 (hE.trans h0)).1 x hx).1) ⟨ha, (adF_iff ha).1 ((firstZ_both _ _).1 (hE.trans h0)).2⟩)
  obtain ⟨E1, hE1⟩ : ∃ E, E = tabF t := ⟨_, rfl⟩
  obtain ⟨E2, hE2⟩ : ∃ E, E = adF a.s a.hi a.lo := ⟨_, rfl⟩
  rw [← hE1, ← hE2] at hE
  rw [← hE1] at HT
  rw [← hE2] at HA
  replace HA : Hid (∀ W, Calls Tryz.prog 28 #[adA a] W (GivesV (.int .i64 E2) W)) := HA
  replace hE := Lib.hid hE
  clear hS hU hE1 hE2 ha
  have hC := Blk.new w (adC a) 30
  have hbw : Below w.heap.size w (w.alloc (.cells (adC a).toArray 30)) := (Below.refl _ _).alloc (Nat.le_refl _) _
  go_enter Tryz.func8, Tryz.ntmps8
  go_upto_region 1 with fail
  refine wb_begin ([w.heap.size]) [] (by kernel_rfl) (fun u0 hb0' hz0' => ?_)
  replace hC := hC.below hb0'
  replace hbw := hbw.trans (hb0'.mono hbw.size)
  clear hb0' hz0'
  refine wb_pureZ 0 (some 9) (v := ?_) ?_ ?_; rotate_left; · (intro u; go_simp; try with_reducible rfl)
  try simp only [Act.put, gzD, gzE, gzF]
  refine wb_takeZ 2 (some 11) (v := ?_) ?_ ?_; rotate_left; · (intro u hu; have kc := hC.kb hu (List.mem_singleton.2 rfl); have k1 := kc.ld rowAd rfl; go_simp; try with_reducible rfl)
  try simp only [Act.put, gzD, gzE, gzF]
  refine wb_oneZ 1 (fun K hK => ?_)
  go_simp
  refine (HT.out _ hbw).mono ?_
  rintro e u1 ⟨rfl, hv1⟩
  refine hK _ _ (Kb.below hv1 (by intro q hq; rw [List.mem_singleton.1 hq]; exact hC.lt)) ?_
  replace hC := hC.below hv1
  replace hbw := hbw.trans (hv1.mono hbw.size)
  clear hK K hv1
  try simp only [Act.put, gzD, gzE, gzF]
  refine wb_oneZ 3 (fun K hK => ?_)
  go_simp
  refine (HA.out _).mono ?_
  rintro e u3 ⟨rfl, hv1⟩
  refine hK _ _ (Kb.below hv1 (by intro q hq; rw [List.mem_singleton.1 hq]; exact hC.lt)) ?_
  replace hC := hC.below hv1
  replace hbw := hbw.trans (hv1.mono hbw.size)
  clear hK K hv1
  try simp only [Act.put, gzD, gzE, gzF]
  refine wb_oneZ 4 (fun K hK => ?_)
  go_simp
  refine hK _ _ (Kb.gb (World.grownBy_alloc _ _ none) (by intro q hq; rw [List.mem_singleton.1 hq]; exact ⟨hC.lt, by simp⟩)) ?_
  clear hK K
  refine wb_new (cs := [E1, E2].map (Value.int .i64)) (t := 32) (fun u4 hv1 hq1 hz1 => ?_)
  replace hC := hC.below hv1
  replace hbw := hbw.trans (hv1.mono hbw.size)
  clear hv1 hz1
  try simp only [Act.put, gzD, gzE, gzF]
  refine wb_oneZ 5 (fun K hK => ?_)
  go_simp
  refine (orE_blk [E1, E2] _ 2 _ _ hq1 (by simp)).mono ?_
  rintro e w' ⟨rfl, rfl⟩
  rw [hE.out]
  refine hK _ _ (Kb.refl _ _) ?_
  clear hK K hq1
  try simp only [Act.put, gzD, gzE, gzF]
  refine wb_pureZ 6 (some 7) (v := ?_) ?_ ?_; rotate_left; · (intro u; go_simp; try with_reducible rfl)
  try simp only [Act.put, gzD, gzE, gzF]
  refine wb_done (by kernel_rfl) ?_ _
  skip
  by_cases hE0 : E = 0
  · have b0 : (E == 0) = true := by simp [hE0]
    have hE1 := Lib.hid hE0
    have HL1 := Lib.hid (HL.out _ hbw hE0)
    have k1 := hC.ld rowAd rfl
    clear HL hE0 HT HA
    obtain ⟨s, hs⟩ : ∃ s, s = lookT t a.n := ⟨_, rfl⟩
    rw [← hs] at HL1
    replace hs := Lib.hid hs
    go_wp2_with fail
    refine HL1.out.mono ?_
    rintro e w5 ⟨rfl, hv1⟩
    replace hbw := hbw.trans (hv1.mono hbw.size)
    clear hv1 HL1 k1
    go_wp2_with fail
    go_ret3
    exact ⟨s, by rw [hE1.out]; rfl, fun _ => hs.out, fun h => absurd hE1.out h, hbw⟩
  · have b0 : (E == 0) = false := by simp [hE0]
    have hE1 := Lib.hid hE0
    clear hE0 HL HT HA
    go_wp2_with fail
    go_ret3
    exact ⟨[], rfl, fun h => absurd h hE1.out, fun _ => rfl, hbw⟩

theorem results_cell_tmp2_row {fn : Func} {p u v : Tmp} {ty : TypeId} {k : Nat} (T : RowT ty k) (h : fn.results = #[.cell p ty, .tmp u, .tmp v]) (tmps : Array Value) (w : World) (g : Nat) (t : TypeId) (cs : List Value) (x y : Value)
    (hp : tmps.getD p undef = .pointer (some ⟨g, 0, none⟩)) (hx : tmps.getD u undef = x) (hy : tmps.getD v undef = y) (hg : Blk w g cs t) (hl : cs.length = k) :
    (results fn tmps).run Tryz.prog w = .ok (.tuple #[.agg cs.toArray, x, y]) w := by
  obtain ⟨d, hu, hd⟩ := T.row
  have := run_loadVar_mid (P := Tryz.prog) w g 0 ty cs d (hg.range 0 cs [] (by simp)) hu hd (by rw [T.size, hl])
  have e : (results fn tmps).run Tryz.prog w = ((asAddr (tmps.getD p undef)).run Tryz.prog w).andThen fun a w₁ => ((loadVar ty a).run Tryz.prog w₁).andThen fun z w₂ => .ok (.tuple #[z, tmps.getD u undef, tmps.getD v undef]) w₂ := by
    simp only [results, h]
    simp [Sem.run_bind, Result.andThen]
  rw [e, hp, hx, hy]
  simp [asAddr, this, Result.andThen]
def DifP (t y : List En) (E : Int) (b : Ad) (is : Bool) : Prop :=
  (is = true → E = 0 ∧ b.R ∧ lookT t b.n ≠ lookT y b.n ∧ ∀ m, Val m → m < b.n → lookT t m = lookT y m) ∧ (is = false → b = ⟨false, 0, 0⟩ ∧ (E = 0 → ∀ m, Val m → lookT t m = lookT y m))
def GivesDif (t y : List En) (E : Int) (w : World) (e : Ending) (w' : World) : Prop := ∃ b is, e = .returned (.tuple #[adA b, .bool is, .int .i64 E]) ∧ DifP t y E b is ∧ Below w.heap.size w w'
theorem cut_idx {cs : List Ad} (h : Cut cs) {j k : Nat} {c x : Ad} (hj : cs[j]? = some c) (hk : cs[k]? = some x) (hlt : c.n < x.n) : j < k := by
  obtain ⟨hj1, hj2⟩ := List.getElem?_eq_some_iff.1 hj
  obtain ⟨hk1, hk2⟩ := List.getElem?_eq_some_iff.1 hk
  rcases Nat.lt_trichotomy j k with g | rfl | g
  · exact g
  · rw [hj2] at hk2
    rw [hk2] at hlt
    omega
  · have := List.pairwise_iff_getElem.1 h.sorted k j hk1 hj1 g
    rw [hj2, hk2] at this
    omega
theorem tabF_len {t : List En} (h : tabF t = 0) : t.length ≤ 500 := by
  unfold tabF at h
  split at h
  · omega
  · omega

set_option maxHeartbeats 4000000 in
theorem differT_any (E : Int) (A : Option Addr) (n cap : Nat) (t : List En) (A' : Option Addr) (n' cap' : Nat) (y : List En) (w : World) (hS : SlE eEn w A n cap t) (hn : n ≤ 100000) (hU : ∀ x ∈ t, x.p.1.U)
    (hS' : SlE eEn w A' n' cap' y) (hn' : n' ≤ 100000) (hU' : ∀ x ∈ y, x.p.1.U) (hE : firstZ [tabF t, tabF y] = E) :
    Calls Tryz.prog 7 #[.slice A n cap, .slice A' n' cap'] w (GivesDif t y E w) := by
  have HT := Lib.hid (fun W (hW : Below w.heap.size w W) => checkTable_any (tabF t) A n cap t W (hS.below hW) hn hU rfl)
  have HU := Lib.hid (fun W (hW : Below w.heap.size w W) => checkTable_any (tabF y) A' n' cap' y W (hS'.below hW) hn' hU' rfl)
  have HG := Lib.hid (fun h0 : E = 0 => (⟨fun x hx => (tabF_good hU ((firstZ_both _ _).1 (hE.trans h0)).1 x hx).1, fun x hx => (tabF_good hU' ((firstZ_both _ _).1 (hE.trans h0)).2 x hx).1, tabF_len ((firstZ_both _ _).1 (hE.trans h0)).1, tabF_len ((firstZ_both _ _).1 (hE.trans h0)).2⟩ : (∀ x ∈ t, x.p.R) ∧ (∀ x ∈ y, x.p.R) ∧ t.length ≤ 500 ∧ y.length ≤ 500))
  obtain ⟨E1, hE1⟩ : ∃ E, E = tabF t := ⟨_, rfl⟩
  obtain ⟨E2, hE2⟩ : ∃ E, E = tabF y := ⟨_, rfl⟩
  rw [← hE1, ← hE2] at hE
  rw [← hE1] at HT
  rw [← hE2] at HU
  replace hE := Lib.hid hE
  clear hE1 hE2 hU hU'
  replace hS := Lib.hid hS
  replace hS' := Lib.hid hS'
  have hZ := Blk.new w (adC ⟨false, 0, 0⟩) 30
  have hbw : Below w.heap.size w (w.alloc (.cells (adC ⟨false, 0, 0⟩).toArray 30)) := (Below.refl _ _).alloc (Nat.le_refl _) _
  have B1 := fun w' => run_build (P := Tryz.prog) w' 30 #[] (adC ⟨false, 0, 0⟩).toArray (by kernel_rfl)
  go_enter Tryz.func7, Tryz.ntmps7
  go_wp2_with fail
  refine (HT.out _ hbw).mono ?_
  rintro e u1 ⟨rfl, hv1⟩
  replace hZ := hZ.below hv1
  replace hbw := hbw.trans (hv1.mono hbw.size)
  clear hv1
  go_wp2_with fail
  refine (HU.out _ hbw).mono ?_
  rintro e u2 ⟨rfl, hv1⟩
  replace hZ := hZ.below hv1
  replace hbw := hbw.trans (hv1.mono hbw.size)
  clear hv1
  have hz2 := hbw.size
  have hN := Blk.new u2 ([E1, E2].map (Value.int .i64)) 32
  replace hZ := hZ.alloc (.cells ([E1, E2].map (Value.int .i64)).toArray 32)
  replace hbw := hbw.alloc hz2 (.cells ([E1, E2].map (Value.int .i64)).toArray 32)
  have HE := Lib.hid (orE_blk [E1, E2] _ 2 _ _ hN (by simp))
  rw [hE.out] at HE
  clear hN hz2
  go_wp2_with fail
  refine HE.out.mono ?_
  rintro e u4 ⟨rfl, hw4⟩
  rw [hw4] at hZ hbw
  clear HE hw4
  by_cases hE0 : E = 0
  · have b0 : (E == 0) = true := by simp [hE0]
    obtain ⟨gR1, gR2, gl1, gl2⟩ := HG.out hE0
    have hE1 := Lib.hid hE0
    have HR1 := Lib.hid (fun W (hW : Below w.heap.size w W) => reaches_any A n cap t W (hS.out.below hW) hn gR1)
    have HR2 := Lib.hid (fun W (hW : Below w.heap.size w W) => reaches_any A' n' cap' y W (hS'.out.below hW) hn' gR2)
    have hN1 := Lib.hid (show (rgT t).length ≤ 5000 by unfold rgT; rw [List.length_map]; omega)
    have hN2 := Lib.hid (show (rgT y).length ≤ 5000 by unfold rgT; rw [List.length_map]; omega)
    have hG1 := Lib.hid (show ∀ x ∈ rgT t, RgR x from fun x hx => by obtain ⟨e, he, rfl⟩ := List.mem_map.1 hx; exact rgP_R (gR1 e he))
    have hG2 := Lib.hid (show ∀ x ∈ rgT y, RgR x from fun x hx => by obtain ⟨e, he, rfl⟩ := List.mem_map.1 hx; exact rgP_R (gR2 e he))
    replace gR1 := Lib.hid gR1
    replace gR2 := Lib.hid gR2
    replace gl1 := Lib.hid gl1
    replace gl2 := Lib.hid gl2
    clear hE0 HT HU HG
    go_wp2_with fail
    refine (HR1.out _ hbw).mono ?_
    rintro e up ⟨v1, rfl, ho1, hv1⟩
    replace hZ := hZ.below hv1
    replace hbw := hbw.trans (hv1.mono hbw.size)
    obtain ⟨B1, d1, rfl, hS1⟩ := ho1.sl
    clear hv1 ho1
    replace hS1 := Lib.hid hS1
    go_wp2_with fail
    refine (HR2.out _ hbw).mono ?_
    rintro e ur ⟨v2, rfl, ho2, hv1⟩
    replace hZ := hZ.below hv1
    replace hbw := hbw.trans (hv1.mono hbw.size)
    replace hS1 := Lib.hid (hS1.out.below hv1)
    obtain ⟨B2, d2, rfl, hS2⟩ := ho2.sl
    clear hv1 ho2
    replace hS2 := Lib.hid hS2
    have hz2 := hbw.size
    have hQ := Blk.new ur [.slice B1 (rgT t).length d1, .slice B2 (rgT y).length d2] 63
    have hvQ : Below ur.heap.size ur (ur.alloc (.cells [Value.slice B1 (rgT t).length d1, .slice B2 (rgT y).length d2].toArray 63)) := (Below.refl _ _).alloc (Nat.le_refl _) _
    replace hZ := hZ.below hvQ
    replace hbw := hbw.trans (hvQ.mono hbw.size)
    have HQ := Lib.hid (cuts_any _ B1 B2 (rgT t).length d1 (rgT y).length d2 (rgT t) (rgT y) _ hQ (hS1.out.below hvQ) (hS2.out.below hvQ) hN1.out hN2.out hG1.out hG2.out)
    obtain ⟨l1, hl1⟩ : ∃ l, l = (rgT t).length := ⟨_, rfl⟩
    obtain ⟨l2, hl2⟩ : ∃ l, l = (rgT y).length := ⟨_, rfl⟩
    rw [← hl1, ← hl2] at hZ hbw HQ ⊢
    replace hl1 := Lib.hid hl1
    replace hl2 := Lib.hid hl2
    clear hQ hvQ hz2 hS1 hS2
    go_wp2_with fail
    refine HQ.out.mono ?_
    rintro e uq ⟨gq, cq, cs, rfl, hSc, hct, hc1, hc2, hcl, hv1⟩
    rw [hl1.out, hl2.out] at hcl
    replace hZ := hZ.below hv1
    replace hbw := hbw.trans (hv1.mono hbw.size)
    clear hv1 HQ
    replace hSc := Lib.hid hSc
    replace hct := Lib.hid hct
    replace hc1 := Lib.hid hc1
    replace hc2 := Lib.hid hc2
    have hcn : cs.length ≤ 30000 := by have h1 := hN1.out; have h2 := hN2.out; have h3 := hl1.out; have h4 := hl2.out; omega
    obtain ⟨L, hL⟩ : ∃ L, L = cs.length := ⟨_, rfl⟩
    rw [← hL] at hSc hcn ⊢
    replace hL := Lib.hid hL
    clear hcl HR1 HR2 hN1 hN2 hG1 hG2
    go_wp2_with fail
    go_loopw [27] (fun vi wr => ∃ k : Nat, k ≤ L ∧ vi = .int .i64 k ∧ Below w.heap.size w wr ∧ Blk wr w.heap.size (adC ⟨false, 0, 0⟩) 30 ∧ Below uq.heap.size uq wr ∧ Hid (∀ j c, j < k → cs[j]? = some c → lookT t c.n = lookT y c.n)) (fun vi _ => L - (intOf vi).toNat)
    case atStart => exact ⟨0, Nat.zero_le _, rfl, hbw, hZ, Below.refl _ _, Lib.hid (fun j c h => absurd h (Nat.not_lt_zero _))⟩
    case round =>
      clear hbw hZ
      obtain ⟨k, hk, rfl, hbw, hZ, hb5, hI⟩ := hrel
      by_cases hlt : k < L
      · obtain ⟨x, hx⟩ : ∃ x, cs[k]? = some x := ⟨cs[k]'(by have := hL.out; omega), List.getElem?_eq_getElem _⟩
        have hSc1 := hSc.out.below hb5
        have hld := SlE.ld rowAd hSc1 hx
        replace hld : (ldT 30 (.pointer (some ⟨gq, 0 + k * 3, none⟩))).run Tryz.prog wr = .ok (.value (adA x)) wr := hld
        rw [Nat.zero_add] at hld
        have hxR := hct.out.right x (List.mem_of_getElem? hx)
        have hlt' : (k : Int) < L := by omega
        have hsw := hbw.size
        have S1 := stT_new rowAd (te := 30) wr wr.heap.size rfl [.bool false, .int .u64 0, .int .u64 0] (adC x) rfl rfl (adC_one x)
        have hX := Blk.new wr (adC x) 30
        have hvA : Below wr.heap.size wr (wr.alloc (.cells (adC x).toArray 30)) := (Below.refl _ _).alloc (Nat.le_refl _) _
        have HL1 := Lib.hid (fun W (hW : Below w.heap.size w W) => look_any x A n cap t W (hS.out.below hW) hn gR1.out hxR)
        have HL2 := Lib.hid (fun W (hW : Below w.heap.size w W) => look_any x A' n' cap' y W (hS'.out.below hW) hn' gR2.out hxR)
        obtain ⟨s1, hs1⟩ : ∃ s, s = lookT t x.n := ⟨_, rfl⟩
        obtain ⟨s2, hs2⟩ : ∃ s, s = lookT y x.n := ⟨_, rfl⟩
        rw [← hs1] at HL1
        rw [← hs2] at HL2
        replace hs1 := Lib.hid hs1
        replace hs2 := Lib.hid hs2
        replace hx := Lib.hid hx
        replace hxR := Lib.hid hxR
        replace hb5 := Lib.hid hb5
        clear hSc1
        replace hZ := hZ.below hvA
        replace hbw := hbw.trans (hvA.mono hbw.size)
        have hbr := hvA
        clear hvA
        go_upto_region 7 with fail
        refine wb_begin ([wr.heap.size]) [] (by kernel_rfl) (fun u0 hb0' hz0' => ?_)
        replace hX := hX.below hb0'
        replace hbr := hbr.trans (hb0'.mono hbr.size)
        replace hZ := hZ.below hb0'
        replace hbw := hbw.trans (hb0'.mono hbw.size)
        clear hb0' hz0'
        refine wb_pureZ 0 (some 31) (v := ?_) ?_ ?_; rotate_left; · (intro u; go_simp; try with_reducible rfl)
        try simp only [Act.put, gzD, gzE, gzF]
        refine wb_takeZ 1 (some 32) (v := ?_) ?_ ?_; rotate_left; · (intro u hu; have kc := hX.kb hu (List.mem_singleton.2 rfl); have k1 := kc.ld rowAd rfl; go_simp; try with_reducible rfl)
        try simp only [Act.put, gzD, gzE, gzF]
        refine wb_pureZ 3 (some 34) (v := ?_) ?_ ?_; rotate_left; · (intro u; go_simp; try with_reducible rfl)
        try simp only [Act.put, gzD, gzE, gzF]
        refine wb_takeZ 4 (some 35) (v := ?_) ?_ ?_; rotate_left; · (intro u hu; have kc := hX.kb hu (List.mem_singleton.2 rfl); have k1 := kc.ld rowAd rfl; go_simp; try with_reducible rfl)
        try simp only [Act.put, gzD, gzE, gzF]
        refine wb_oneZ 2 (fun K hK => ?_)
        go_simp
        refine (HL1.out _ hbw).mono ?_
        rintro e u2 ⟨rfl, hv1⟩
        refine hK _ _ (Kb.below hv1 (by intro q hq; rw [List.mem_singleton.1 hq]; exact hX.lt)) ?_
        replace hX := hX.below hv1
        replace hbr := hbr.trans (hv1.mono hbr.size)
        replace hZ := hZ.below hv1
        replace hbw := hbw.trans (hv1.mono hbw.size)
        clear hK K hv1
        try simp only [Act.put, gzD, gzE, gzF]
        refine wb_oneZ 5 (fun K hK => ?_)
        go_simp
        refine (HL2.out _ hbw).mono ?_
        rintro e u5 ⟨rfl, hv1⟩
        refine hK _ _ (Kb.below hv1 (by intro q hq; rw [List.mem_singleton.1 hq]; exact hX.lt)) ?_
        replace hX := hX.below hv1
        replace hbr := hbr.trans (hv1.mono hbr.size)
        replace hZ := hZ.below hv1
        replace hbw := hbw.trans (hv1.mono hbw.size)
        clear hK K hv1
        try simp only [Act.put, gzD, gzE, gzF]
        refine wb_pureZ 6 (some 37) (v := ?_) ?_ ?_; rotate_left; · (intro u; go_simp; try with_reducible rfl)
        try simp only [Act.put, gzD, gzE, gzF]
        refine wb_done (by kernel_rfl) ?_ _
        skip
        by_cases hse : s1 = s2
        · have b1 : (s1 == s2) = true := by simp [hse]
          have hI2 : Hid (∀ j c, j < k + 1 → cs[j]? = some c → lookT t c.n = lookT y c.n) := Lib.hid fun j c hj hc => by
            rcases Nat.lt_succ_iff_lt_or_eq.1 hj with h | rfl
            · exact hI.out j c h hc
            · rw [hx.out] at hc
              obtain rfl := Option.some.inj hc
              rw [← hs1.out, ← hs2.out]; exact hse
          have hb6 := hb5.out.trans (hbr.mono hb5.out.size)
          clear hI hse hb5 hbr HL1 HL2 hX hld S1
          rw [b1]
          go_wp2_with fail
          go_roundw
          case rel => exact ⟨k + 1, by omega, by go_num, hbw, hZ, hb6, hI2⟩
          case measure => simp [intOf]; omega
        · have b1 : (s1 == s2) = false := by simp [hse]
          have S8 := stT_row rowAd hZ rfl (adC_len x) (adC_one x)
          have k1 := hX.ld rowAd rfl
          have hmin := Lib.hid (fun m (hm : Val m) (hlm : m < x.n) => cuts_say gR1.out gR2.out hct.out hc1.out hc2.out hm (fun c hc hle => by
            obtain ⟨j, hj⟩ := List.getElem?_of_mem hc
            exact hI.out j c (cut_idx hct.out hj hx.out (by omega)) hj))
          have hne := Lib.hid (show lookT t x.n ≠ lookT y x.n by rw [← hs1.out, ← hs2.out]; exact hse)
          replace hZ := hZ.row (adC x)
          replace hbw := below_row hbw (Nat.le_refl _) (adC x).toArray
          clear hI hse hb5 hbr HL1 HL2 hX hld S1
          rw [b1]
          go_wp2_with fail
          (try simp only [Exit.inBlock, Exit.then])
          refine bodyPost_ret (v := .tuple #[adA x, .bool true, .int .i64 0]) (results_cell_tmp2_row rowAd rfl _ _ w.heap.size _ _ _ _ rfl rfl rfl hZ rfl) rfl ?_
          exact ⟨x, true, by rw [hE1.out], ⟨fun _ => ⟨hE1.out, hxR.out, hne.out, hmin.out⟩, fun h => (by cases h)⟩, hbw⟩
      · have hall := Lib.hid (fun m (hm : Val m) => cuts_say gR1.out gR2.out hct.out hc1.out hc2.out hm (fun c hc _ => by
          obtain ⟨j, hj⟩ := List.getElem?_of_mem hc
          have h1 := (List.getElem?_eq_some_iff.1 hj).1
          exact hI.out j c (by have := hL.out; omega) hj))
        have hnlt : ¬ (k : Int) < L := by omega
        have S1 : (stT 30 (.pointer (some ⟨w.heap.size, 0, none⟩)) (.agg #[.bool false, .int .u64 0, .int .u64 0])).run Tryz.prog wr = .ok .skip (wr.setRow w.heap.size #[.bool false, .int .u64 0, .int .u64 0]) := stT_row rowAd hZ rfl (adC_len ⟨false, 0, 0⟩) (adC_one ⟨false, 0, 0⟩)
        replace hZ := hZ.row (adC ⟨false, 0, 0⟩)
        replace hbw := below_row hbw (Nat.le_refl _) (adC ⟨false, 0, 0⟩).toArray
        clear hI hb5
        go_wp2_with fail
        (try simp only [Exit.inBlock, Exit.then])
        refine bodyPost_ret (v := .tuple #[adA ⟨false, 0, 0⟩, .bool false, .int .i64 0]) (results_cell_tmp2_row rowAd rfl _ _ w.heap.size _ _ _ _ rfl rfl rfl hZ rfl) rfl ?_
        exact ⟨⟨false, 0, 0⟩, false, by rw [hE1.out], ⟨fun h => (by cases h), fun _ => ⟨rfl, fun _ => hall.out⟩⟩, hbw⟩
  · have b0 : (E == 0) = false := by simp [hE0]
    have hE1 := Lib.hid hE0
    have S1 : (stT 30 (.pointer (some ⟨w.heap.size, 0, none⟩)) (.agg #[.bool false, .int .u64 0, .int .u64 0])).run Tryz.prog u4 = .ok .skip (u4.setRow w.heap.size #[.bool false, .int .u64 0, .int .u64 0]) := stT_row rowAd hZ rfl (adC_len ⟨false, 0, 0⟩) (adC_one ⟨false, 0, 0⟩)
    replace hZ := hZ.row (adC ⟨false, 0, 0⟩)
    replace hbw := below_row hbw (Nat.le_refl _) (adC ⟨false, 0, 0⟩).toArray
    clear hE0 HT HU HG
    go_wp2_with fail
    (try simp only [Exit.inBlock, Exit.then])
    refine bodyPost_ret (v := .tuple #[adA ⟨false, 0, 0⟩, .bool false, .int .i64 E]) (results_cell_tmp2_row rowAd rfl _ _ w.heap.size _ _ _ _ rfl rfl rfl hZ rfl) rfl ?_
    exact ⟨⟨false, 0, 0⟩, false, rfl, ⟨fun h => (by cases h), fun _ => ⟨rfl, fun h => absurd h hE1.out⟩⟩, hbw⟩
end Go.Proofs.YtfbggfpihiegpaaGreatDoor
