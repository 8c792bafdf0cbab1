/- Reports: slices.Equal. -/
import Derived.Test.YtilgjgdppfnefaaGreatDoorKhRpL
namespace Go.Proofs.YtilgjgdppfnefaaGreatDoor
open Go.RowKit
set_option linter.unusedVariables false
set_option linter.unusedSimpArgs false

theorem check_any (A : Option Addr) (n cap : Nat) (rs : List Rp) (w : World) (hS : SlE eRp w A n cap rs) (hn : n ≤ 1000000) (hU : ∀ r ∈ rs, r.U) :
    Calls Tryz.prog 12 #[.slice A n cap] w (GivesV (.int .i64 (repsF rs)) w) := by
  have HC := Lib.hid (rising_any _ A n cap rs w hS hn hU rfl)
  generalize repsF rs = R at *
  clear hS hU
  go_enter Tryz.func12, Tryz.ntmps12
  go_wp2_with fail
  refine HC.out.mono ?_
  rintro e w1 ⟨rfl, hb⟩
  go_wp2_with fail
  go_ret
  exact ⟨rfl, hb⟩
end Go.Proofs.YtilgjgdppfnefaaGreatDoor
namespace Go.Proofs.YtilgjgdppfnefaaGreatDoor
open Go.RowKit
set_option linter.unusedVariables false
set_option linter.unusedSimpArgs false

def fqQ (x y : Fl) : Bool := x.p == y.p && (adB x.f y.f && (adB x.t y.t && (x.fp == y.fp && x.tp == y.tp)))
def rqQ (x y : Rp) : Bool := x.node == y.node && (x.hour == y.hour && (x.out == y.out && (fqQ x.fl y.fl && (x.pk == y.pk && x.by_ == y.by_))))
theorem fqQ_iff (x y : Fl) : fqQ x y = true ↔ x = y := by
  obtain ⟨a, b, c, d, e⟩ := x
  obtain ⟨a', b', c', d', e'⟩ := y
  simp [fqQ, adB_iff]
theorem rqQ_iff (x y : Rp) : rqQ x y = true ↔ x = y := by
  obtain ⟨a, b, c, d, e, f⟩ := x
  obtain ⟨a', b', c', d', e', f'⟩ := y
  simp [rqQ, fqQ_iff]
theorem ifChain {P : Prop} [Decidable P] {X : Result Bool} {q c : Bool} {w : World} (hc : c = true ↔ P) (h : X = .ok q w) : (if P then X else .ok false w) = .ok (c && q) w := by
  by_cases hp : P
  · rw [if_pos hp, h, hc.2 hp, Bool.true_and]
  · have : c = false := by rw [Bool.eq_false_iff]; exact fun k => hp (hc.1 k)
    rw [if_neg hp, this, Bool.false_and]
set_option maxHeartbeats 2000000 in
theorem rp_equalIn (x y : Rp) (w : World) : (Op.equalIn 10000 37 (.agg (rpC x).toArray) (.agg (rpC y).toArray)).run Tryz.prog w = .ok (rqQ x y) w := by
  unfold rpC flC
  rw [show (10000 : Nat) = 9999 + 1 from rfl, run_equalIn_agg w 9999 37 _ _ (by kernel_rfl) (by kernel_rfl)]
  simp only [Program.fieldsOf, Tryz.underlying37]
  go_simp
  have e : rqQ x y = (x.node == y.node && (x.hour == y.hour && (x.out == y.out && (x.fl.p == y.fl.p && (x.fl.f.s == y.fl.f.s && (x.fl.f.hi == y.fl.f.hi && (x.fl.f.lo == y.fl.f.lo && (x.fl.t.s == y.fl.t.s && (x.fl.t.hi == y.fl.t.hi && (x.fl.t.lo == y.fl.t.lo && (x.fl.fp == y.fl.fp && (x.fl.tp == y.fl.tp && (x.pk == y.pk && (x.by_ == y.by_ && true)))))))))))))) := by
    unfold rqQ fqQ adB adQ
    simp only [Bool.and_assoc, Bool.and_true]
  rw [e]
  clear e
  iterate 14 refine ifChain beq_iff_eq ?_
  rfl

def neRp (x y : Operand) (a b : Value) : Sem Next := do
  let v ← (do eqGuard .neq 37 x y a b; binOp .neq 37 a b)
  pure (.value v)
@[go_sem ↓ high] theorem execOp_neRp' (ρ : Operand → Value) (dst : Option Tmp) (x y : Operand) (r ty : TypeId) (pos : String) (after : Array Edge) (guard : Option (Nat × Bool)) :
    execOp ρ ⟨dst, .binOp .neq 37 x y r, ty, pos, after, guard⟩ = neRp x y (ρ x) (ρ y) := rfl
@[go_sem high] theorem execOp_neRp (ρ : Operand → Value) (dst : Option Tmp) (x y : Operand) (r ty : TypeId) (pos : String) (after : Array Edge) (guard : Option (Nat × Bool)) :
    execOp ρ ⟨dst, .binOp .neq 37 x y r, ty, pos, after, guard⟩ = neRp x y (ρ x) (ρ y) := rfl
@[go_sem] theorem run_neRp (x y : Operand) (a b : Rp) (w : World) : (neRp x y (.agg (rpC a).toArray) (.agg (rpC b).toArray)).run Tryz.prog w = .ok (.value (.bool (!rqQ a b))) w := by
  unfold neRp
  simp only [Sem.run_bind, run_neq_struct, rp_equalIn, run_eqGuard_agg _ _ _ _ _ _ _ Tryz.eqGuardType37, Result.andThen_ok, Sem.run_pure]

def eqRp (x y : Operand) (a b : Value) : Sem Next := do
  let v ← (do eqGuard .eql 37 x y a b; binOp .eql 37 a b)
  pure (.value v)
@[go_sem ↓ high] theorem execOp_eqRp' (ρ : Operand → Value) (dst : Option Tmp) (x y : Operand) (r ty : TypeId) (pos : String) (after : Array Edge) (guard : Option (Nat × Bool)) :
    execOp ρ ⟨dst, .binOp .eql 37 x y r, ty, pos, after, guard⟩ = eqRp x y (ρ x) (ρ y) := rfl
@[go_sem high] theorem execOp_eqRp (ρ : Operand → Value) (dst : Option Tmp) (x y : Operand) (r ty : TypeId) (pos : String) (after : Array Edge) (guard : Option (Nat × Bool)) :
    execOp ρ ⟨dst, .binOp .eql 37 x y r, ty, pos, after, guard⟩ = eqRp x y (ρ x) (ρ y) := rfl
@[go_sem] theorem run_eqRp (x y : Operand) (a b : Rp) (w : World) : (eqRp x y (.agg (rpC a).toArray) (.agg (rpC b).toArray)).run Tryz.prog w = .ok (.value (.bool (rqQ a b))) w := by
  unfold eqRp
  simp only [Sem.run_bind, run_eql_struct, rp_equalIn, run_eqGuard_agg _ _ _ _ _ _ _ Tryz.eqGuardType37, Result.andThen_ok, Sem.run_pure]
end Go.Proofs.YtilgjgdppfnefaaGreatDoor
namespace Go.Proofs.YtilgjgdppfnefaaGreatDoor
open Go.RowKit
set_option linter.unusedVariables false
set_option linter.unusedSimpArgs false

theorem SlE.keepR {α : Type} {E : Enc α} {w u : World} {A : Option Addr} {n cap : Nat} {xs : List α} (h : SlE E w A n cap xs) (hu : w.grownBy u none) : SlE E u A n cap xs := h.below (gb2B hu)

set_option maxHeartbeats 2000000 in
set_option maxRecDepth 100000 in
theorem equalRp_any (A A' : Option Addr) (n m cap cap' : Nat) (xs ys : List Rp) (w : World) (hS : SlE eRp w A n cap xs) (hS' : SlE eRp w A' m cap' ys) (hn : n ≤ 1000000) (hm : m ≤ 1000000) :
    Calls Tryz.prog 15 #[.slice A n cap, .slice A' m cap'] w fun e w' => ∃ b, e = .returned (.bool b) ∧ (b = true ↔ xs = ys) ∧ Below w.heap.size w w' := by
  have hl := Lib.hid hS.1
  have hl' := Lib.hid hS'.1
  have hS := Lib.hid hS
  have hS' := Lib.hid hS'
  by_cases hnm : n = m
  · subst hnm
    go_enter Tryz.func15, Tryz.ntmps15
    go_wp2_with fail
    go_loopw [13] (fun i wr => ∃ k : Nat, k ≤ n ∧ i = .int .i64 k ∧ Hid (xs.take k = ys.take k) ∧ Below w.heap.size w wr) (fun i _ => n - (intOf i).toNat)
    case atStart => exact ⟨0, by omega, rfl, Lib.hid rfl, Below.refl _ _⟩
    case round =>
      obtain ⟨k, hk, rfl, htk, hbw⟩ := hrel
      by_cases hlt : k < n
      · obtain ⟨x, hx⟩ : ∃ x, xs[k]? = some x := ⟨xs[k]'(by have := hl.out; omega), List.getElem?_eq_getElem _⟩
        obtain ⟨y, hy⟩ : ∃ y, ys[k]? = some y := ⟨ys[k]'(by have := hl'.out; omega), List.getElem?_eq_getElem _⟩
        obtain ⟨g0, off, rfl, _, _⟩ := hS.out.at' hlt
        obtain ⟨g1, off', rfl, _, _⟩ := hS'.out.at' hlt
        have hlt' : (k : Int) < n := by omega
        have HQ := Lib.hid (rqQ_iff x y)
        have hx := Lib.hid hx
        have hy := Lib.hid hy
        go_wp2_with fail
        refine wx_begin (none) [] (by kernel_rfl) (fun u0 hb0' hz0' => ?_)
        replace hbw := hbw.trans (hb0'.mono hbw.size)
        clear hb0' hz0'
        refine wx_pure (i := 0) (d := some 16) (v := ?_) (by simp only [List.getElem?_toArray, List.getElem?_cons_succ, List.getElem?_cons_zero] <;> rfl) (by rfl) (by kernel_rfl) (by kernel_rfl) (by kernel_rfl) (fun _ _ _ h => h) (by rfl) ?_ ?_
        rotate_left
        · ((intro u); go_simp; try with_reducible rfl)
        try simp only [Act.put, List.setIfInBounds_toArray, List.set_cons_zero, List.set_cons_succ]
        refine wx_pure (i := 1) (d := some 17) (v := ?_) (by simp only [List.getElem?_toArray, List.getElem?_cons_succ, List.getElem?_cons_zero] <;> rfl) (by rfl) (by kernel_rfl) (by kernel_rfl) (by kernel_rfl) (fun _ _ _ h => h) (by rfl) ?_ ?_
        rotate_left
        · ((intro u); go_simp; try with_reducible rfl)
        try simp only [Act.put, List.setIfInBounds_toArray, List.set_cons_zero, List.set_cons_succ]
        refine wx_pure (i := 2) (d := some 18) (v := ?_) (by simp only [List.getElem?_toArray, List.getElem?_cons_succ, List.getElem?_cons_zero] <;> rfl) (by rfl) (by kernel_rfl) (by kernel_rfl) (by kernel_rfl) (fun _ _ _ h => h) (by rfl) ?_ ?_
        rotate_left
        · ((intro u); go_simp; try with_reducible rfl)
        try simp only [Act.put, List.setIfInBounds_toArray, List.set_cons_zero, List.set_cons_succ]
        refine wx_take (i := 3) (d := some 19) (v := ?_) (by simp only [List.getElem?_toArray, List.getElem?_cons_succ, List.getElem?_cons_zero] <;> rfl) (by rfl) (by kernel_rfl) (by kernel_rfl) (by kernel_rfl) (fun _ _ _ h => h) (by rfl) (by kernel_rfl) ?_ ?_
        rotate_left
        · ((intro u hu); have k1 := SlE.ld (E := eRp) rowRp ((hS.out.below hbw).keepR hu) hx.out; have k2 := SlE.ld (E := eRp) rowRp ((hS'.out.below hbw).keepR hu) hy.out; replace k1 : (ldT 37 (.pointer (some ⟨g0, off + k * 14, none⟩))).run Tryz.prog u = .ok (.value (.agg (rpC x).toArray)) u := k1; replace k2 : (ldT 37 (.pointer (some ⟨g1, off' + k * 14, none⟩))).run Tryz.prog u = .ok (.value (.agg (rpC y).toArray)) u := k2; go_simp; try with_reducible rfl)
        try simp only [Act.put, List.setIfInBounds_toArray, List.set_cons_zero, List.set_cons_succ]
        refine wx_pure (i := 4) (d := some 20) (v := ?_) (by simp only [List.getElem?_toArray, List.getElem?_cons_succ, List.getElem?_cons_zero] <;> rfl) (by rfl) (by kernel_rfl) (by kernel_rfl) (by kernel_rfl) (fun _ _ _ h => h) (by rfl) ?_ ?_
        rotate_left
        · ((intro u); go_simp; try with_reducible rfl)
        try simp only [Act.put, List.setIfInBounds_toArray, List.set_cons_zero, List.set_cons_succ]
        refine wx_pure (i := 5) (d := some 21) (v := ?_) (by simp only [List.getElem?_toArray, List.getElem?_cons_succ, List.getElem?_cons_zero] <;> rfl) (by rfl) (by kernel_rfl) (by kernel_rfl) (by kernel_rfl) (fun _ _ _ h => h) (by rfl) ?_ ?_
        rotate_left
        · ((intro u); go_simp; try with_reducible rfl)
        try simp only [Act.put, List.setIfInBounds_toArray, List.set_cons_zero, List.set_cons_succ]
        refine wx_pure (i := 6) (d := some 22) (v := ?_) (by simp only [List.getElem?_toArray, List.getElem?_cons_succ, List.getElem?_cons_zero] <;> rfl) (by rfl) (by kernel_rfl) (by kernel_rfl) (by kernel_rfl) (fun _ _ _ h => h) (by rfl) ?_ ?_
        rotate_left
        · ((intro u); go_simp; try with_reducible rfl)
        try simp only [Act.put, List.setIfInBounds_toArray, List.set_cons_zero, List.set_cons_succ]
        refine wx_take (i := 7) (d := some 23) (v := ?_) (by simp only [List.getElem?_toArray, List.getElem?_cons_succ, List.getElem?_cons_zero] <;> rfl) (by rfl) (by kernel_rfl) (by kernel_rfl) (by kernel_rfl) (fun _ _ _ h => h) (by rfl) (by kernel_rfl) ?_ ?_
        rotate_left
        · ((intro u hu); have k1 := SlE.ld (E := eRp) rowRp ((hS.out.below hbw).keepR hu) hx.out; have k2 := SlE.ld (E := eRp) rowRp ((hS'.out.below hbw).keepR hu) hy.out; replace k1 : (ldT 37 (.pointer (some ⟨g0, off + k * 14, none⟩))).run Tryz.prog u = .ok (.value (.agg (rpC x).toArray)) u := k1; replace k2 : (ldT 37 (.pointer (some ⟨g1, off' + k * 14, none⟩))).run Tryz.prog u = .ok (.value (.agg (rpC y).toArray)) u := k2; go_simp; try with_reducible rfl)
        try simp only [Act.put, List.setIfInBounds_toArray, List.set_cons_zero, List.set_cons_succ]
        refine wx_pure (i := 8) (d := some 24) (v := ?_) (by simp only [List.getElem?_toArray, List.getElem?_cons_succ, List.getElem?_cons_zero] <;> rfl) (by rfl) (by kernel_rfl) (by kernel_rfl) (by kernel_rfl) (fun _ _ _ h => h) (by rfl) ?_ ?_
        rotate_left
        · ((intro u); go_simp; try with_reducible rfl)
        try simp only [Act.put, List.setIfInBounds_toArray, List.set_cons_zero, List.set_cons_succ]
        refine wx_done (by kernel_rfl) ?_ _
        skip
        generalize rqQ x y = q at *
        cases q
        · have hne := Lib.hid (show ¬ xs = ys from fun e => by
            have h1 := hx.out
            rw [e, hy.out] at h1
            injection h1 with h1
            have := HQ.out.2 h1.symm
            cases this)
          go_wp2_with fail
          go_ret
          exact ⟨false, rfl, ⟨fun h => by (first | exact h.elim | cases h), fun h => absurd h hne.out⟩, hbw⟩
        · have hxy := HQ.out.1 rfl
          have htk2 := Lib.hid (show xs.take (k + 1) = ys.take (k + 1) by rw [List.take_add_one, List.take_add_one, htk.out, hx.out, hy.out, hxy])
          clear hxy HQ
          go_wp2_with fail
          go_roundw
          case rel => exact ⟨k + 1, by omega, by go_num, htk2, hbw⟩
          case measure => simp [intOf]; omega
      · have he := Lib.hid (show xs = ys by
          have h1 := htk.out
          rwa [List.take_of_length_le (by have := hl.out; omega), List.take_of_length_le (by have := hl'.out; omega)] at h1)
        go_wp2_with fail
        go_ret
        exact ⟨true, rfl, ⟨fun _ => he.out, fun _ => rfl⟩, hbw⟩
  · have h0 : ((n : Int) == (m : Int)) = false := by rw [beq_eq_false_iff_ne]; omega
    have hne := Lib.hid (show ¬ xs = ys from fun e => by have h1 := hl.out; have h2 := hl'.out; rw [e] at h1; omega)
    clear hnm
    go_enter Tryz.func15, Tryz.ntmps15
    go_wp2_with fail
    go_ret
    exact ⟨false, rfl, ⟨fun h => by (first | exact h.elim | cases h), fun h => absurd h hne.out⟩, Below.refl _ _⟩
end Go.Proofs.YtilgjgdppfnefaaGreatDoor
