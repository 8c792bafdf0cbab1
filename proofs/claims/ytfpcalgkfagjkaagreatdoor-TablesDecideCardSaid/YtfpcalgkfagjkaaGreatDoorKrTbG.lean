/- Tables: Lookup. -/
import Derived.Test.YtfpcalgkfagjkaaGreatDoorKrGzA
import Derived.Test.YtfpcalgkfagjkaaGreatDoorKrTbD
import Derived.Test.YtfpcalgkfagjkaaGreatDoorKrSvB
import Derived.Test.YtfpcalgkfagjkaaGreatDoorKrSuD
set_option linter.unusedVariables false
set_option linter.unusedSimpArgs false
set_option maxRecDepth 100000
namespace Go.Proofs.YtfpcalgkfagjkaaGreatDoor
open Go.RowKit

def zEn : Value := .agg #[.bool false, .int .u64 0, .int .u64 0, .int .i64 0, .string ⟨#[]⟩]
theorem infoEn : (Tryz.prog.info? 37).map (fun i => (i.zero, i.size, i.bytes)) = some (some zEn, 5, 48) := by kernel_rfl
theorem tyeEn : Ty eEn 37 26 zEn 48 := ⟨Tryz.underlying26, infoEn, rfl, by decide⟩
section
variable (ρ : Operand → Value) (dst : Option Tmp) (x : Operand) (ty : TypeId) (pos : String) (after : Array Edge) (guard : Option (Nat × Bool))
@[go_sem ↓ high] theorem execOp_bsEn : execOp ρ ⟨dst, .buildSlice 26 1 #[(0, x)], ty, pos, after, guard⟩ = bsT 26 (ρ x) := by
  simp only [execOp, bsT, List.map_toArray, List.map_cons, List.map_nil]
@[go_sem high] theorem execOp_bsEn' : execOp ρ ⟨dst, .buildSlice 26 1 #[(0, x)], ty, pos, after, guard⟩ = bsT 26 (ρ x) := by
  simp only [execOp, bsT, List.map_toArray, List.map_cons, List.map_nil]
end
@[go_sem] theorem run_bsEn (x : En) (w : World) : (bsT 26 (.agg (enC x).toArray)).run Tryz.prog w = .ok (.value (.slice (some ⟨w.heap.size, 0, none⟩) 1 1)) (w.alloc (.cells (enC x).toArray 37)) :=
  bsT_run Tryz.underlying26 infoEn (by decide) (by decide) (by kernel_rfl) w

def rgT (t : List En) : List (Ad × Ad) := t.map fun x => rgP x.p

set_option maxHeartbeats 4000000 in
theorem reaches_any (A : Option Addr) (n cap : Nat) (t : List En) (w : World) (hS : SlE eEn w A n cap t) (hn : n ≤ 100000) (hR : ∀ x ∈ t, x.p.R) :
    Calls Tryz.prog 33 #[.slice A n cap] w fun e w' => ∃ v, e = .returned v ∧ OwnE eRg 95 w.heap.size w' v (rgT t) ∧ Below w.heap.size w w' := by
  have hpl := Lib.hid hS.1
  replace hS := Lib.hid hS
  replace hR := Lib.hid hR
  go_enter Tryz.func33, Tryz.ntmps33
  go_wp2_with fail
  go_loopw [3, 8] (fun o i wr => ∃ k : Nat, k ≤ n ∧ i = .int .i64 k ∧ OwnE eRg 95 w.heap.size wr o ((rgT t).take k) ∧ Below w.heap.size w wr) (fun _ i _ => n - (intOf i).toNat)
  case atStart => exact ⟨0, by omega, rfl, OwnE.nil _ _, Below.refl _ _⟩
  case round =>
    obtain ⟨k, hk, rfl, hown, hbw⟩ := hrel
    by_cases hlt : k < n
    · skip
      obtain ⟨x, hx⟩ : ∃ x, t[k]? = some x := ⟨t[k]'(by have := hpl.out; omega), List.getElem?_eq_getElem _⟩
      obtain ⟨g0, off, rfl, hg0, hc0⟩ := hS.out.at' hlt
      have hld := SlE.ld rowEn (hS.out.below hbw) hx
      replace hld : (ldT 37 (.pointer (some ⟨g0, off + k * 5, none⟩))).run Tryz.prog wr = .ok (.value (enA x)) wr := hld
      have hpR := hR.out x (List.mem_of_getElem? hx)
      have hlt' : (k : Int) < n := by omega
      have hsw := hbw.size
      have hl2 := Lib.hid (show ((rgT t).take k).length ≤ n by rw [List.length_take]; omega)
      have htk := Lib.hid (show (rgT t).take (k + 1) = (rgT t).take k ++ [rgP x.p] by unfold rgT; rw [List.take_add_one, List.getElem?_map, hx]; rfl)
      have S1 := stT_new rowEn (te := 37) wr wr.heap.size rfl [.bool false, .int .u64 0, .int .u64 0, .int .i64 0, .string ⟨#[]⟩] (enC x) rfl rfl (enC_one x)
      clear hc0 hx
      have hC := Blk.new wr (enC x) 37
      replace hown := hown.alloc' (.cells (enC x).toArray 37)
      replace hbw := hbw.alloc hsw (.cells (enC x).toArray 37)
      have HR := fun w' => Lib.hid (rangeOf_R x.p w' hpR)
      have l1 := hC.ldAt rowPf 0 (pfC x.p) [.string ⟨x.nm.toArray⟩] rfl rfl
      go_wp2_with fail
      refine (HR _).out.mono ?_
      rintro e w2 ⟨rfl, hb2⟩
      replace hown := hown.below hb2
      replace hbw := hbw.trans (hb2.mono hbw.size)
      clear hb2 l1 hC S1
      have hz := hbw.size
      go_wp2_with (at_builtin; refine wpList_app tyeRg rfl _ _ rfl w.heap.size _ _ [rgP x.p] rfl (hown.alloc' _) ⟨_, 0, none⟩ 1 1 rfl rfl ?c1 ?c2 ?c3 ?_)
      case c1 => exact cell_row_at _ _ _ _ rfl
      case c2 => have := hl2.out; simp only [List.length_singleton]; omega
      case c3 => first | omega | (simp; done) | (simp; omega)
      intro v3 x3 hown3 hg3 _
      have hb3 : Below w.heap.size w x3 := (hbw.alloc hbw.size _).grown hg3 (by first | omega | (simp; done) | (simp; omega)) (fun k h => (hown.lt k h).1)
      clear hg3 hown hbw
      go_wp2_with fail
      go_roundw
      case rel => exact ⟨k + 1, by omega, by go_num, by rw [htk.out]; exact hown3, hb3⟩
      case measure => simp [intOf]; omega
    · have hkn : k = n := by omega
      have htk := List.take_of_length_le (show (rgT t).length ≤ k by unfold rgT; rw [List.length_map]; have := hpl.out; omega)
      rw [htk] at hown
      replace hown := Lib.hid hown
      clear htk hkn
      go_wp2_with fail
      go_ret
      exact ⟨_, rfl, hown.out, hbw⟩

def pfE2 (p q : Pf) : Bool := pfQ p.1.s q.1.s p.1.hi p.1.lo q.1.hi q.1.lo p.2 q.2
theorem pfE2_dec (p q : Pf) : pfE2 p q = decide (p = q) := by
  obtain ⟨⟨s, a, b⟩, n⟩ := p
  obtain ⟨⟨t, c, d⟩, m⟩ := q
  unfold pfE2 pfQ
  rw [Bool.eq_iff_iff]
  simp [Ad.mk.injEq, and_assoc]
theorem run_nePfP (x y : Operand) (p q : Pf) (w : World) : (nePf x y (.agg (pfC p).toArray) (.agg (pfC q).toArray)).run Tryz.prog w = .ok (.value (.bool (!pfE2 p q))) w :=
  run_nePf x y p.1.s q.1.s p.1.hi p.1.lo q.1.hi q.1.lo p.2 q.2 w

set_option maxHeartbeats 1000000 in
theorem around_any (x : En) (p : Pf) (g : Nat) (w : World) (hp : p.R) (hx : x.p.R) (h : Blk w g (enC x) 37) :
    Calls Tryz.prog 30 #[pfA p, .pointer (some ⟨g, 0, none⟩)] w (GivesV (.bool (supB x.p p)) w) := by
  obtain ⟨⟨p1, p2⟩, ⟨p3, p4⟩⟩ := hp.1.1
  obtain ⟨⟨q1, q2⟩, ⟨q3, q4⟩⟩ := hx.1.1
  have H1 := fun w' => Lib.hid (inside_any x.p.1.s x.p.1.hi x.p.1.lo x.p.2 p.1.s p.1.hi p.1.lo p.2 w' q1 q2 q3 q4 p1 p2 p3 p4 hp.2.1 hp.2.2.1)
  have N1 := fun a b w' => run_nePfP a b p x.p w'
  have hV : supB x.p p = (!pfE2 p x.p && insP x.p p) := by
    unfold supB
    rw [pfE2_dec, decide_not]
  rw [hV]
  obtain ⟨I, hI⟩ : ∃ I, I = insP x.p p := ⟨_, rfl⟩
  replace H1 : ∀ w', Hid (Calls Tryz.prog 31 #[pfA x.p, pfA p] w' (GivesV (.bool I) w')) := by rw [hI]; exact H1
  rw [← hI]
  generalize pfE2 p x.p = E at N1 ⊢
  have hC := Blk.new w (pfC p) 35
  have hbw : Below w.heap.size w (w.alloc (.cells (pfC p).toArray 35)) := (Below.refl _ _).alloc (Nat.le_refl _) _
  replace h := Blk.below h hbw
  have k1 := hC.ld rowPf rfl
  have k2 := h.ldAt rowPf 0 (pfC x.p) [.string ⟨x.nm.toArray⟩] rfl rfl
  clear hI hV p1 p2 p3 p4 q1 q2 q3 q4 hp hx
  go_enter Tryz.func30, Tryz.ntmps30
  cases E with
  | true =>
    go_wp2_with fail
    go_ret
    exact ⟨rfl, hbw⟩
  | false =>
    go_wp2_with fail
    refine (H1 _).out.mono ?_
    rintro e w1 ⟨rfl, hb1⟩
    replace hbw := hbw.trans (hb1.mono hbw.size)
    go_wp2_with fail
    go_ret
    exact ⟨by simp, hbw⟩

def enQ (x y : En) : Bool := pfE2 x.p y.p && x.nm == y.nm
theorem enQ_iff (x y : En) : enQ x y = true ↔ x = y := by
  obtain ⟨a, b⟩ := x
  obtain ⟨a', b'⟩ := y
  unfold enQ
  rw [pfE2_dec]
  simp
theorem ifChainE {P : Prop} [Decidable P] {X : Result Bool} {q c : Bool} {w : World} (hc : c = true ↔ P) (h : X = .ok q w) : (if P then X else .ok false w) = .ok (c && q) w := by
  by_cases hp : P
  · rw [if_pos hp, h, hc.2 hp, Bool.true_and]
  · have : c = false := by rw [Bool.eq_false_iff]; exact fun k => hp (hc.1 k)
    rw [if_neg hp, this, Bool.false_and]

set_option maxHeartbeats 2000000 in
theorem en_equalIn (x y : En) (w : World) : (Op.equalIn 10000 37 (.agg (enC x).toArray) (.agg (enC y).toArray)).run Tryz.prog w = .ok (enQ x y) w := by
  unfold enC
  rw [show (10000 : Nat) = 9999 + 1 from rfl, run_equalIn_agg w 9999 37 _ _ (by kernel_rfl) (by kernel_rfl)]
  simp only [Program.fieldsOf, Tryz.underlying37]
  go_simp
  have e : enQ x y = (x.p.1.s == y.p.1.s && (x.p.1.hi == y.p.1.hi && (x.p.1.lo == y.p.1.lo && (x.p.2 == y.p.2 && (x.nm == y.nm && true))))) := by
    unfold enQ pfE2 pfQ
    simp only [Bool.and_assoc, Bool.and_true]
  rw [e]
  clear e
  iterate 5 refine ifChainE beq_iff_eq ?_
  rfl
def neEn (x y : Operand) (a b : Value) : Sem Next := do
  let v ← (do eqGuard .neq 37 x y a b; binOp .neq 37 a b)
  pure (.value v)
@[go_sem ↓ high] theorem execOp_neEn' (ρ : Operand → Value) (dst : Option Tmp) (x y : Operand) (r ty : TypeId) (pos : String) (after : Array Edge) (guard : Option (Nat × Bool)) :
    execOp ρ ⟨dst, .binOp .neq 37 x y r, ty, pos, after, guard⟩ = neEn x y (ρ x) (ρ y) := rfl
@[go_sem high] theorem execOp_neEn (ρ : Operand → Value) (dst : Option Tmp) (x y : Operand) (r ty : TypeId) (pos : String) (after : Array Edge) (guard : Option (Nat × Bool)) :
    execOp ρ ⟨dst, .binOp .neq 37 x y r, ty, pos, after, guard⟩ = neEn x y (ρ x) (ρ y) := rfl
@[go_sem] theorem run_neEn (x y : Operand) (a b : En) (w : World) : (neEn x y (.agg (enC a).toArray) (.agg (enC b).toArray)).run Tryz.prog w = .ok (.value (.bool (!enQ a b))) w := by
  unfold neEn
  simp only [Sem.run_bind, run_neq_struct, en_equalIn, run_eqGuard_agg _ _ _ _ _ _ _ Tryz.eqGuardType37, Result.andThen_ok, Sem.run_pure]

theorem SlE.keepE {α : Type} {E : Enc α} {w u : World} {A : Option Addr} {n cap : Nat} {xs : List α} (h : SlE E w A n cap xs) (hu : w.grownBy u none) : SlE E u A n cap xs := h.below (gb2B hu)

set_option maxHeartbeats 2000000 in
theorem equalEn_any (A A' : Option Addr) (n m cap cap' : Nat) (xs ys : List En) (w : World) (hS : SlE eEn w A n cap xs) (hS' : SlE eEn w A' m cap' ys) (hn : n ≤ 1000000) (hm : m ≤ 1000000) :
    Calls Tryz.prog 20 #[.slice A n cap, .slice A' m cap'] w fun e w' => ∃ b, e = .returned (.bool b) ∧ (b = true ↔ xs = ys) ∧ Below w.heap.size w w' := by
  have hl := Lib.hid hS.1
  have hl' := Lib.hid hS'.1
  have hS := Lib.hid hS
  have hS' := Lib.hid hS'
  by_cases hnm : n = m
  · subst hnm
    go_enter Tryz.func20, Tryz.ntmps20
    go_wp2_with fail
    go_loopw [13] (fun i wr => ∃ k : Nat, k ≤ n ∧ i = .int .i64 k ∧ Hid (xs.take k = ys.take k) ∧ Below w.heap.size w wr) (fun i _ => n - (intOf i).toNat)
    case atStart => exact ⟨0, by omega, rfl, Lib.hid rfl, Below.refl _ _⟩
    case round =>
      obtain ⟨k, hk, rfl, htk, hbw⟩ := hrel
      by_cases hlt : k < n
      · obtain ⟨x, hx⟩ : ∃ x, xs[k]? = some x := ⟨xs[k]'(by have := hl.out; omega), List.getElem?_eq_getElem _⟩
        obtain ⟨y, hy⟩ : ∃ y, ys[k]? = some y := ⟨ys[k]'(by have := hl'.out; omega), List.getElem?_eq_getElem _⟩
        obtain ⟨g0, off, rfl, _, _⟩ := hS.out.at' hlt
        obtain ⟨g1, off', rfl, _, _⟩ := hS'.out.at' hlt
        have hlt' : (k : Int) < n := by omega
        have HQ := Lib.hid (enQ_iff x y)
        have hx := Lib.hid hx
        have hy := Lib.hid hy
        go_wp2_with fail
        refine wx_begin (none) [] (by kernel_rfl) (fun u0 hb0' hz0' => ?_)
        replace hbw := hbw.trans (hb0'.mono hbw.size)
        clear hb0' hz0'
        refine wx_pureZ 0 (some 16) (v := ?_) ?_ ?_; rotate_left; · (intro u; go_simp; try with_reducible rfl)
        try simp only [Act.put, gzD, gzE, gzF]
        refine wx_pureZ 1 (some 17) (v := ?_) ?_ ?_; rotate_left; · (intro u; go_simp; try with_reducible rfl)
        try simp only [Act.put, gzD, gzE, gzF]
        refine wx_pureZ 2 (some 18) (v := ?_) ?_ ?_; rotate_left; · (intro u; go_simp; try with_reducible rfl)
        try simp only [Act.put, gzD, gzE, gzF]
        refine wx_takeZ 3 (some 19) (v := ?_) ?_ ?_; rotate_left; · (intro u hu; have k1 := SlE.ld (E := eEn) rowEn ((hS.out.below hbw).keepE hu) hx.out; have k2 := SlE.ld (E := eEn) rowEn ((hS'.out.below hbw).keepE hu) hy.out; replace k1 : (ldT 37 (.pointer (some ⟨g0, off + k * 5, none⟩))).run Tryz.prog u = .ok (.value (.agg (enC x).toArray)) u := k1; replace k2 : (ldT 37 (.pointer (some ⟨g1, off' + k * 5, none⟩))).run Tryz.prog u = .ok (.value (.agg (enC y).toArray)) u := k2; go_simp; try with_reducible rfl)
        try simp only [Act.put, gzD, gzE, gzF]
        refine wx_pureZ 4 (some 20) (v := ?_) ?_ ?_; rotate_left; · (intro u; go_simp; try with_reducible rfl)
        try simp only [Act.put, gzD, gzE, gzF]
        refine wx_pureZ 5 (some 21) (v := ?_) ?_ ?_; rotate_left; · (intro u; go_simp; try with_reducible rfl)
        try simp only [Act.put, gzD, gzE, gzF]
        refine wx_pureZ 6 (some 22) (v := ?_) ?_ ?_; rotate_left; · (intro u; go_simp; try with_reducible rfl)
        try simp only [Act.put, gzD, gzE, gzF]
        refine wx_takeZ 7 (some 23) (v := ?_) ?_ ?_; rotate_left; · (intro u hu; have k1 := SlE.ld (E := eEn) rowEn ((hS.out.below hbw).keepE hu) hx.out; have k2 := SlE.ld (E := eEn) rowEn ((hS'.out.below hbw).keepE hu) hy.out; replace k1 : (ldT 37 (.pointer (some ⟨g0, off + k * 5, none⟩))).run Tryz.prog u = .ok (.value (.agg (enC x).toArray)) u := k1; replace k2 : (ldT 37 (.pointer (some ⟨g1, off' + k * 5, none⟩))).run Tryz.prog u = .ok (.value (.agg (enC y).toArray)) u := k2; go_simp; try with_reducible rfl)
        try simp only [Act.put, gzD, gzE, gzF]
        refine wx_pureZ 8 (some 24) (v := ?_) ?_ ?_; rotate_left; · (intro u; go_simp; try with_reducible rfl)
        try simp only [Act.put, gzD, gzE, gzF]
        refine wx_done (by kernel_rfl) ?_ _
        skip
        generalize enQ x y = q at *
        cases q
        · have hne := Lib.hid (show ¬ xs = ys from fun e => by
            have h1 := hx.out
            rw [e, hy.out] at h1
            injection h1 with h1
            have := HQ.out.2 h1.symm
            cases this)
          go_wp2_with fail
          go_ret
          exact ⟨false, rfl, ⟨fun h => by (first | exact h.elim | cases h), fun h => absurd h hne.out⟩, hbw⟩
        · have hxy := HQ.out.1 rfl
          have htk2 := Lib.hid (show xs.take (k + 1) = ys.take (k + 1) by rw [List.take_add_one, List.take_add_one, htk.out, hx.out, hy.out, hxy])
          clear hxy HQ
          go_wp2_with fail
          go_roundw
          case rel => exact ⟨k + 1, by omega, by go_num, htk2, hbw⟩
          case measure => simp [intOf]; omega
      · have he := Lib.hid (show xs = ys by
          have h1 := htk.out
          rwa [List.take_of_length_le (by have := hl.out; omega), List.take_of_length_le (by have := hl'.out; omega)] at h1)
        go_wp2_with fail
        go_ret
        exact ⟨true, rfl, ⟨fun _ => he.out, fun _ => rfl⟩, hbw⟩
  · have h0 : ((n : Int) == (m : Int)) = false := by rw [beq_eq_false_iff_ne]; omega
    have hne := Lib.hid (show ¬ xs = ys from fun e => by have h1 := hl.out; have h2 := hl'.out; rw [e] at h1; omega)
    clear hnm
    go_enter Tryz.func20, Tryz.ntmps20
    go_wp2_with fail
    go_ret
    exact ⟨false, rfl, ⟨fun h => by (first | exact h.elim | cases h), fun h => absurd h hne.out⟩, Below.refl _ _⟩

theorem tabG_good : ∀ (t : List En) (p : Option En), (∀ x ∈ t, x.p.1.U) → tabG p t = 0 → ∀ x ∈ t, x.p.R ∧ keyB x.nm = true
  | [], _, _, _, x, hx => by cases hx
  | y :: l, p, hU, h, x, hx => by
    unfold tabG at h
    split at h
    · next h1 =>
      split at h
      · next h2 =>
        split at h
        · omega
        · rcases List.mem_cons.1 hx with rfl | hx
          · exact ⟨(pfE_iff (hU x List.mem_cons_self)).1 h1, h2⟩
          · exact tabG_good l _ (fun z hz => hU z (List.mem_cons_of_mem _ hz)) h x hx
      · omega
    · next h1 => exact absurd h h1
theorem tabF_good {t : List En} (hU : ∀ x ∈ t, x.p.1.U) (h : tabF t = 0) : ∀ x ∈ t, x.p.R ∧ keyB x.nm = true := by
  unfold tabF at h
  split at h
  · omega
  · exact tabG_good t none hU h
def sqK (t : List En) (k : Nat) : List En := (t.take k).filter fun x => decide (aroT t x ≠ x.nm)

set_option maxHeartbeats 4000000 in
theorem squeeze_ok (A : Option Addr) (n cap : Nat) (t : List En) (w : World) (hS : SlE eEn w A n cap t) (hn : n ≤ 100000) (hU : ∀ x ∈ t, x.p.1.U) (h0 : tabF t = 0) :
    Calls Tryz.prog 11 #[.slice A n cap] w fun e w' => ∃ v, e = .returned (.tuple #[v, .int .i64 0]) ∧ OwnE eEn 37 w.heap.size w' v (sqT t) ∧ Below w.heap.size w w' := by
  have hpl := Lib.hid hS.1
  have hR := Lib.hid (fun x hx => (tabF_good hU h0 x hx).1)
  have HC := Lib.hid (checkTable_any 0 A n cap t w hS hn hU h0.symm)
  replace hS := Lib.hid hS
  clear hU h0
  go_enter Tryz.func11, Tryz.ntmps11
  go_wp2_with fail
  refine HC.out.mono ?_
  rintro e w0 ⟨rfl, hb0⟩
  clear HC
  go_wp2_with fail
  go_loopw [5, 16] (fun o i wr => ∃ k : Nat, k ≤ n ∧ i = .int .i64 k ∧ OwnE eEn 37 w.heap.size wr o (sqK t k) ∧ Below w.heap.size w wr) (fun _ i _ => n - (intOf i).toNat)
  case atStart => exact ⟨0, by omega, rfl, OwnE.nil _ _, hb0⟩
  case round =>
    obtain ⟨k, hk, rfl, hown, hbw⟩ := hrel
    clear hb0
    by_cases hlt : k < n
    · skip
      obtain ⟨x, hx⟩ : ∃ x, t[k]? = some x := ⟨t[k]'(by have := hpl.out; omega), List.getElem?_eq_getElem _⟩
      obtain ⟨g0, off, rfl, hg0, hc0⟩ := hS.out.at' hlt
      have hS1 := hS.out.below hbw
      have hld := SlE.ld rowEn hS1 hx
      replace hld : (ldT 37 (.pointer (some ⟨g0, off + k * 5, none⟩))).run Tryz.prog wr = .ok (.value (enA x)) wr := hld
      have hxR := hR.out x (List.mem_of_getElem? hx)
      have hlt' : (k : Int) < n := by omega
      have hsw := hbw.size
      have hl2 := Lib.hid (show (sqK t k).length ≤ n by
        unfold sqK
        have h1 := List.length_filter_le (fun x => decide (aroT t x ≠ x.nm)) (t.take k)
        rw [List.length_take] at h1
        omega)
      have htk := Lib.hid (show (sqK t (k + 1)) = (sqK t k) ++ (if aroT t x = x.nm then [] else [x]) by
        unfold sqK
        rw [List.take_add_one, hx, List.filter_append]
        by_cases h : aroT t x = x.nm
        · simp [h]
        · simp [h])
      have S1 := stT_new rowEn (te := 37) wr wr.heap.size rfl [.bool false, .int .u64 0, .int .u64 0, .int .i64 0, .string ⟨#[]⟩] (enC x) rfl rfl (enC_one x)
      clear hc0 hx
      have hC := Blk.new wr (enC x) 37
      have hvA : Below wr.heap.size wr (wr.alloc (.cells (enC x).toArray 37)) := (Below.refl _ _).alloc (Nat.le_refl _) _
      replace hown := hown.alloc' (.cells (enC x).toArray 37)
      replace hbw := hbw.alloc hsw (.cells (enC x).toArray 37)
      have HL := Lib.hid (longestT_any 30 wr.heap.size (supB x.p) (some ⟨g0, off, none⟩) n cap t (wr.alloc (.cells (enC x).toArray 37)) (hS1.below hvA) hn hR.out
        (fun p W hp hW => around_any x p wr.heap.size W hp hxR (Blk.below hC hW)) (fun args w => by rfl))
      replace HL : Hid (Calls Tryz.prog 29 #[.slice (some ⟨g0, off, none⟩) n cap, .func (.func 30) #[] #[.pointer (some ⟨wr.heap.size, 0, none⟩)]] (wr.alloc (.cells (enC x).toArray 37)) (GivesV (.string ⟨(aroT t x).toArray⟩) (wr.alloc (.cells (enC x).toArray 37)))) := HL
      obtain ⟨V, hV⟩ : ∃ V, V = decide (aroT t x = x.nm) := ⟨_, rfl⟩
      obtain ⟨Y, hY⟩ : ∃ Y, Y = aroT t x := ⟨_, rfl⟩
      rw [← hY] at HL hV
      have b0 : (Y == x.nm) = V := by rw [hV]; exact (Bool.eq_iff_iff.2 (by rw [beq_iff_eq, decide_eq_true_iff]))
      rw [hY] at hV
      replace hV := Lib.hid hV
      clear hY
      clear hS1 hvA hxR
      go_wp2_with fail
      refine HL.out.mono ?_
      rintro e w2 ⟨rfl, hb2⟩
      replace hown := hown.below hb2
      replace hbw := hbw.trans (hb2.mono hbw.size)
      replace hC := hC.below hb2
      have c4 := hC.cell (i := 4) (v := .string ⟨x.nm.toArray⟩) rfl
      clear hb2 S1 HL hld
      have hz := hbw.size
      cases V with
      | true =>
        have htk2 := Lib.hid (show (sqK t (k + 1)) = (sqK t k) by
          rw [htk.out, if_pos (of_decide_eq_true hV.out.symm), List.append_nil])
        clear htk hV
        go_wp2_with fail
        go_roundw
        case rel => exact ⟨k + 1, by omega, by go_num, by rw [htk2.out]; exact hown, hbw⟩
        case measure => simp [intOf]; omega
      | false =>
        have htk2 := Lib.hid (show (sqK t (k + 1)) = (sqK t k) ++ [x] by
          rw [htk.out, if_neg (of_decide_eq_false hV.out.symm)])
        clear htk hV
        have l2 := hC.ld rowEn rfl
        go_wp2_with (at_builtin; refine wpList_app tyeEn rfl _ _ rfl w.heap.size _ _ [x] rfl (hown.alloc' _) ⟨_, 0, none⟩ 1 1 rfl rfl ?c1 ?c2 ?c3 ?_)
        case c1 => exact cell_row_at _ _ _ _ rfl
        case c2 => have := hl2.out; simp only [List.length_singleton]; omega
        case c3 => first | omega | (simp; done) | (simp; omega)
        intro v3 x3 hown3 hg3 _
        have hb3 : Below w.heap.size w x3 := (hbw.alloc hbw.size _).grown hg3 (by first | omega | (simp; done) | (simp; omega)) (fun k h => (hown.lt k h).1)
        clear hg3 hown hbw l2
        go_wp2_with fail
        go_roundw
        case rel => exact ⟨k + 1, by omega, by go_num, by rw [htk2.out]; exact hown3, hb3⟩
        case measure => simp [intOf]; omega
    · have hkn : k = n := by omega
      rw [show sqK t k = sqT t by unfold sqK; rw [List.take_of_length_le (show t.length ≤ k by have := hpl.out; omega)]; rfl] at hown
      replace hown : Hid (OwnE eEn 37 w.heap.size wr _ (sqT t)) := Lib.hid hown
      clear hkn
      go_wp2_with fail
      go_ret2
      exact ⟨_, rfl, hown.out, hbw⟩

set_option maxHeartbeats 4000000 in
theorem lookup_any (E : Int) (A : Option Addr) (n cap : Nat) (t : List En) (a : Ad) (w : World) (hS : SlE eEn w A n cap t) (hn : n ≤ 100000) (hU : ∀ x ∈ t, x.p.1.U) (ha : a.U) (hE : firstZ [tabF t, adF a.s a.hi a.lo] = E) :
    Calls Tryz.prog 10 #[.slice A n cap, adA a] w fun e w' => ∃ s : List UInt8, e = .returned (.tuple #[.string ⟨s.toArray⟩, .bool (!s.isEmpty), .int .i64 E]) ∧ (E = 0 → s = lookT t a.n) ∧ (E ≠ 0 → s = []) ∧ Below w.heap.size w w' := by
  have HT := Lib.hid (fun W (hW : Below w.heap.size w W) => checkTable_any (tabF t) A n cap t W (hS.below hW) hn hU rfl)
  have HA := Lib.hid (fun W => checkAddr_any a.s a.hi a.lo W)
  have HL := Lib.hid (fun W (hW : Below w.heap.size w W) (h0 : E = 0) => look_any a A n cap t W (hS.below hW) hn (fun x hx => (tabF_good hU ((firstZ_both _ _).1 (hE.trans h0)).1 x hx).1) ⟨ha, (adF_iff ha).1 ((firstZ_both _ _).1 (hE.trans h0)).2⟩)
  obtain ⟨E1, hE1⟩ : ∃ E, E = tabF t := ⟨_, rfl⟩
  obtain ⟨E2, hE2⟩ : ∃ E, E = adF a.s a.hi a.lo := ⟨_, rfl⟩
  rw [← hE1, ← hE2] at hE
  rw [← hE1] at HT
  rw [← hE2] at HA
  replace HA : Hid (∀ W, Calls Tryz.prog 27 #[adA a] W (GivesV (.int .i64 E2) W)) := HA
  replace hE := Lib.hid hE
  clear hS hU hE1 hE2 ha
  have hC := Blk.new w (adC a) 30
  have hbw : Below w.heap.size w (w.alloc (.cells (adC a).toArray 30)) := (Below.refl _ _).alloc (Nat.le_refl _) _
  go_enter Tryz.func10, Tryz.ntmps10
  go_upto_region 1 with fail
  refine wb_begin ([w.heap.size]) [] (by kernel_rfl) (fun u0 hb0' hz0' => ?_)
  replace hC := hC.below hb0'
  replace hbw := hbw.trans (hb0'.mono hbw.size)
  clear hb0' hz0'
  refine wb_pureZ 0 (some 9) (v := ?_) ?_ ?_; rotate_left; · (intro u; go_simp; try with_reducible rfl)
  try simp only [Act.put, gzD, gzE, gzF]
  refine wb_takeZ 2 (some 11) (v := ?_) ?_ ?_; rotate_left; · (intro u hu; have kc := hC.kb hu (List.mem_singleton.2 rfl); have k1 := kc.ld rowAd rfl; go_simp; try with_reducible rfl)
  try simp only [Act.put, gzD, gzE, gzF]
  refine wb_oneZ 1 (fun K hK => ?_)
  go_simp
  refine (HT.out _ hbw).mono ?_
  rintro e u1 ⟨rfl, hv1⟩
  refine hK _ _ (Kb.below hv1 (by intro q hq; rw [List.mem_singleton.1 hq]; exact hC.lt)) ?_
  replace hC := hC.below hv1
  replace hbw := hbw.trans (hv1.mono hbw.size)
  clear hK K hv1
  try simp only [Act.put, gzD, gzE, gzF]
  refine wb_oneZ 3 (fun K hK => ?_)
  go_simp
  refine (HA.out _).mono ?_
  rintro e u3 ⟨rfl, hv1⟩
  refine hK _ _ (Kb.below hv1 (by intro q hq; rw [List.mem_singleton.1 hq]; exact hC.lt)) ?_
  replace hC := hC.below hv1
  replace hbw := hbw.trans (hv1.mono hbw.size)
  clear hK K hv1
  try simp only [Act.put, gzD, gzE, gzF]
  refine wb_oneZ 4 (fun K hK => ?_)
  go_simp
  refine hK _ _ (Kb.gb (World.grownBy_alloc _ _ none) (by intro q hq; rw [List.mem_singleton.1 hq]; exact ⟨hC.lt, by simp⟩)) ?_
  clear hK K
  refine wb_new (cs := [E1, E2].map (Value.int .i64)) (t := 40) (fun u4 hv1 hq1 hz1 => ?_)
  replace hC := hC.below hv1
  replace hbw := hbw.trans (hv1.mono hbw.size)
  clear hv1 hz1
  try simp only [Act.put, gzD, gzE, gzF]
  refine wb_oneZ 5 (fun K hK => ?_)
  go_simp
  refine (orE_blk [E1, E2] _ 2 _ _ hq1 (by simp)).mono ?_
  rintro e w' ⟨rfl, rfl⟩
  rw [hE.out]
  refine hK _ _ (Kb.refl _ _) ?_
  clear hK K hq1
  try simp only [Act.put, gzD, gzE, gzF]
  refine wb_pureZ 6 (some 7) (v := ?_) ?_ ?_; rotate_left; · (intro u; go_simp; try with_reducible rfl)
  try simp only [Act.put, gzD, gzE, gzF]
  refine wb_done (by kernel_rfl) ?_ _
  skip
  by_cases hE0 : E = 0
  · have b0 : (E == 0) = true := by simp [hE0]
    have hE1 := Lib.hid hE0
    have HL1 := Lib.hid (HL.out _ hbw hE0)
    have k1 := hC.ld rowAd rfl
    clear HL hE0 HT HA
    obtain ⟨s, hs⟩ : ∃ s, s = lookT t a.n := ⟨_, rfl⟩
    rw [← hs] at HL1
    replace hs := Lib.hid hs
    go_wp2_with fail
    refine HL1.out.mono ?_
    rintro e w5 ⟨rfl, hv1⟩
    replace hbw := hbw.trans (hv1.mono hbw.size)
    clear hv1 HL1 k1
    go_wp2_with fail
    go_ret3
    exact ⟨s, by rw [hE1.out]; rfl, fun _ => hs.out, fun h => absurd hE1.out h, hbw⟩
  · have b0 : (E == 0) = false := by simp [hE0]
    have hE1 := Lib.hid hE0
    clear hE0 HL HT HA
    go_wp2_with fail
    go_ret3
    exact ⟨[], rfl, fun h => absurd h hE1.out, fun _ => rfl, hbw⟩
end Go.Proofs.YtfpcalgkfagjkaaGreatDoor
