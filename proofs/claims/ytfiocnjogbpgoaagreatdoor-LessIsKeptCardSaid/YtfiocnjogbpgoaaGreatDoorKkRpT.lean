/- Reports: the reference sorts them. -/
import Derived.Test.YtfiocnjogbpgoaaGreatDoorKkRpJ
import Derived.Test.YtfiocnjogbpgoaaGreatDoorKkRpG
import Derived.Test.YtfiocnjogbpgoaaGreatDoorKkRuD
import Derived.Shelf.SlSortCmp.WholeK
import Derived.Shelf.SlSortCmp.NoneTotal
import Derived.Test.YtfiocnjogbpgoaaGreatDoorKkShelf
namespace Go.Proofs.YtfiocnjogbpgoaaGreatDoor
open Go.RowKit
set_option linter.unusedVariables false
set_option linter.unusedSimpArgs false

end Go.Proofs.YtfiocnjogbpgoaaGreatDoor
namespace Go.Proofs.YtfiocnjogbpgoaaGreatDoor
open Go.RowKit
set_option linter.unusedVariables false
set_option linter.unusedSimpArgs false

theorem compareInt_anti (x y : Int) : Lib.compareInt y x = - Lib.compareInt x y := by
  unfold Lib.compareInt
  (repeat' split) <;> omega
theorem cmpN_anti (x y : Nat) : cmpN y x = - cmpN x y := by
  unfold cmpN
  by_cases h1 : x < y
  · rw [if_pos h1, if_neg (by omega), if_neg (by omega)]; rfl
  · rw [if_neg h1]
    by_cases h2 : x = y
    · rw [if_pos h2, if_neg (by omega), if_pos h2.symm]; rfl
    · rw [if_neg h2, if_pos (by omega)]
theorem compareBytes_anti : ∀ a b : List UInt8, Lib.compareBytes b a = - Lib.compareBytes a b
  | [], [] => rfl
  | [], _ :: _ => rfl
  | _ :: _, [] => rfl
  | x :: a, y :: b => by
    unfold Lib.compareBytes
    by_cases h1 : x < y
    · rw [if_pos h1, if_neg (by exact fun h => UInt8.lt_irrefl x (UInt8.lt_trans h1 h)), if_pos h1]; rfl
    · rw [if_neg h1]
      by_cases h2 : y < x
      · rw [if_pos h2, if_neg h1, if_pos h2]
      · rw [if_neg h2, if_neg h2, if_neg h1]
        exact compareBytes_anti a b
end Go.Proofs.YtfiocnjogbpgoaaGreatDoor
namespace Go.Proofs.YtfiocnjogbpgoaaGreatDoor
open Go.RowKit
set_option linter.unusedVariables false
set_option linter.unusedSimpArgs false

theorem check_any (A : Option Addr) (n cap : Nat) (rs : List Rp) (w : World) (hS : SlE eRp w A n cap rs) (hn : n ≤ 1000000) (hU : ∀ r ∈ rs, r.U) :
    Calls Tryz.prog 19 #[.slice A n cap] w (GivesV (.int .i64 (repsF rs)) w) := by
  have HC := Lib.hid (rising_any _ A n cap rs w hS hn hU rfl)
  generalize repsF rs = R at *
  clear hS hU
  go_enter Tryz.func19, Tryz.ntmps19
  go_wp2_with fail
  refine HC.out.mono ?_
  rintro e w1 ⟨rfl, hb⟩
  go_wp2_with fail
  go_ret
  exact ⟨rfl, hb⟩
end Go.Proofs.YtfiocnjogbpgoaaGreatDoor
namespace Go.Proofs.YtfiocnjogbpgoaaGreatDoor
open Go.RowKit
set_option linter.unusedVariables false
set_option linter.unusedSimpArgs false

def fqQ (x y : Fl) : Bool := x.p == y.p && (adB x.f y.f && (adB x.t y.t && (x.fp == y.fp && x.tp == y.tp)))
def rqQ (x y : Rp) : Bool := x.node == y.node && (x.hour == y.hour && (x.out == y.out && (fqQ x.fl y.fl && (x.pk == y.pk && x.by_ == y.by_))))
theorem fqQ_iff (x y : Fl) : fqQ x y = true ↔ x = y := by
  obtain ⟨a, b, c, d, e⟩ := x
  obtain ⟨a', b', c', d', e'⟩ := y
  simp [fqQ, adB_iff]
theorem rqQ_iff (x y : Rp) : rqQ x y = true ↔ x = y := by
  obtain ⟨a, b, c, d, e, f⟩ := x
  obtain ⟨a', b', c', d', e', f'⟩ := y
  simp [rqQ, fqQ_iff]
theorem ifChain {P : Prop} [Decidable P] {X : Result Bool} {q c : Bool} {w : World} (hc : c = true ↔ P) (h : X = .ok q w) : (if P then X else .ok false w) = .ok (c && q) w := by
  by_cases hp : P
  · rw [if_pos hp, h, hc.2 hp, Bool.true_and]
  · have : c = false := by rw [Bool.eq_false_iff]; exact fun k => hp (hc.1 k)
    rw [if_neg hp, this, Bool.false_and]
set_option maxHeartbeats 2000000 in
theorem rp_equalIn (x y : Rp) (w : World) : (Op.equalIn 10000 56 (.agg (rpC x).toArray) (.agg (rpC y).toArray)).run Tryz.prog w = .ok (rqQ x y) w := by
  unfold rpC flC
  rw [show (10000 : Nat) = 9999 + 1 from rfl, run_equalIn_agg w 9999 56 _ _ (by kernel_rfl) (by kernel_rfl)]
  simp only [Program.fieldsOf, Tryz.underlying56]
  go_simp
  have e : rqQ x y = (x.node == y.node && (x.hour == y.hour && (x.out == y.out && (x.fl.p == y.fl.p && (x.fl.f.s == y.fl.f.s && (x.fl.f.hi == y.fl.f.hi && (x.fl.f.lo == y.fl.f.lo && (x.fl.t.s == y.fl.t.s && (x.fl.t.hi == y.fl.t.hi && (x.fl.t.lo == y.fl.t.lo && (x.fl.fp == y.fl.fp && (x.fl.tp == y.fl.tp && (x.pk == y.pk && (x.by_ == y.by_ && true)))))))))))))) := by
    unfold rqQ fqQ adB adQ
    simp only [Bool.and_assoc, Bool.and_true]
  rw [e]
  clear e
  iterate 14 refine ifChain beq_iff_eq ?_
  rfl

def neRp (x y : Operand) (a b : Value) : Sem Next := do
  let v ← (do eqGuard .neq 56 x y a b; binOp .neq 56 a b)
  pure (.value v)
@[go_sem ↓ high] theorem execOp_neRp' (ρ : Operand → Value) (dst : Option Tmp) (x y : Operand) (r ty : TypeId) (pos : String) (after : Array Edge) (guard : Option (Nat × Bool)) :
    execOp ρ ⟨dst, .binOp .neq 56 x y r, ty, pos, after, guard⟩ = neRp x y (ρ x) (ρ y) := rfl
@[go_sem high] theorem execOp_neRp (ρ : Operand → Value) (dst : Option Tmp) (x y : Operand) (r ty : TypeId) (pos : String) (after : Array Edge) (guard : Option (Nat × Bool)) :
    execOp ρ ⟨dst, .binOp .neq 56 x y r, ty, pos, after, guard⟩ = neRp x y (ρ x) (ρ y) := rfl
@[go_sem] theorem run_neRp (x y : Operand) (a b : Rp) (w : World) : (neRp x y (.agg (rpC a).toArray) (.agg (rpC b).toArray)).run Tryz.prog w = .ok (.value (.bool (!rqQ a b))) w := by
  unfold neRp
  simp only [Sem.run_bind, run_neq_struct, rp_equalIn, run_eqGuard_agg _ _ _ _ _ _ _ Tryz.eqGuardType56, Result.andThen_ok, Sem.run_pure]

def eqRp (x y : Operand) (a b : Value) : Sem Next := do
  let v ← (do eqGuard .eql 56 x y a b; binOp .eql 56 a b)
  pure (.value v)
@[go_sem ↓ high] theorem execOp_eqRp' (ρ : Operand → Value) (dst : Option Tmp) (x y : Operand) (r ty : TypeId) (pos : String) (after : Array Edge) (guard : Option (Nat × Bool)) :
    execOp ρ ⟨dst, .binOp .eql 56 x y r, ty, pos, after, guard⟩ = eqRp x y (ρ x) (ρ y) := rfl
@[go_sem high] theorem execOp_eqRp (ρ : Operand → Value) (dst : Option Tmp) (x y : Operand) (r ty : TypeId) (pos : String) (after : Array Edge) (guard : Option (Nat × Bool)) :
    execOp ρ ⟨dst, .binOp .eql 56 x y r, ty, pos, after, guard⟩ = eqRp x y (ρ x) (ρ y) := rfl
@[go_sem] theorem run_eqRp (x y : Operand) (a b : Rp) (w : World) : (eqRp x y (.agg (rpC a).toArray) (.agg (rpC b).toArray)).run Tryz.prog w = .ok (.value (.bool (rqQ a b))) w := by
  unfold eqRp
  simp only [Sem.run_bind, run_eql_struct, rp_equalIn, run_eqGuard_agg _ _ _ _ _ _ _ Tryz.eqGuardType56, Result.andThen_ok, Sem.run_pure]
end Go.Proofs.YtfiocnjogbpgoaaGreatDoor
namespace Go.Proofs.YtfiocnjogbpgoaaGreatDoor
open Go.RowKit
set_option linter.unusedVariables false
set_option linter.unusedSimpArgs false

theorem SlE.keepR {α : Type} {E : Enc α} {w u : World} {A : Option Addr} {n cap : Nat} {xs : List α} (h : SlE E w A n cap xs) (hu : w.grownBy u none) : SlE E u A n cap xs := h.below (gb2B hu)

set_option maxHeartbeats 2000000 in
set_option maxRecDepth 100000 in
theorem equalRp_any (A A' : Option Addr) (n m cap cap' : Nat) (xs ys : List Rp) (w : World) (hS : SlE eRp w A n cap xs) (hS' : SlE eRp w A' m cap' ys) (hn : n ≤ 1000000) (hm : m ≤ 1000000) :
    Calls Tryz.prog 25 #[.slice A n cap, .slice A' m cap'] w fun e w' => ∃ b, e = .returned (.bool b) ∧ (b = true ↔ xs = ys) ∧ Below w.heap.size w w' := by
  have hl := Lib.hid hS.1
  have hl' := Lib.hid hS'.1
  have hS := Lib.hid hS
  have hS' := Lib.hid hS'
  by_cases hnm : n = m
  · subst hnm
    go_enter Tryz.func25, Tryz.ntmps25
    go_wp2_with fail
    go_loopw [13] (fun i wr => ∃ k : Nat, k ≤ n ∧ i = .int .i64 k ∧ Hid (xs.take k = ys.take k) ∧ Below w.heap.size w wr) (fun i _ => n - (intOf i).toNat)
    case atStart => exact ⟨0, by omega, rfl, Lib.hid rfl, Below.refl _ _⟩
    case round =>
      obtain ⟨k, hk, rfl, htk, hbw⟩ := hrel
      by_cases hlt : k < n
      · obtain ⟨x, hx⟩ : ∃ x, xs[k]? = some x := ⟨xs[k]'(by have := hl.out; omega), List.getElem?_eq_getElem _⟩
        obtain ⟨y, hy⟩ : ∃ y, ys[k]? = some y := ⟨ys[k]'(by have := hl'.out; omega), List.getElem?_eq_getElem _⟩
        obtain ⟨g0, off, rfl, _, _⟩ := hS.out.at' hlt
        obtain ⟨g1, off', rfl, _, _⟩ := hS'.out.at' hlt
        have hlt' : (k : Int) < n := by omega
        have HQ := Lib.hid (rqQ_iff x y)
        have hx := Lib.hid hx
        have hy := Lib.hid hy
        go_wp2_with fail
        refine wx_begin (none) [] (by kernel_rfl) (fun u0 hb0' hz0' => ?_)
        replace hbw := hbw.trans (hb0'.mono hbw.size)
        clear hb0' hz0'
        refine wx_pure (i := 0) (d := some 16) (v := ?_) (by simp only [List.getElem?_toArray, List.getElem?_cons_succ, List.getElem?_cons_zero] <;> rfl) (by rfl) (by kernel_rfl) (by kernel_rfl) (by kernel_rfl) (fun _ _ _ h => h) (by rfl) ?_ ?_
        rotate_left
        · ((intro u); go_simp; try with_reducible rfl)
        try simp only [Act.put, List.setIfInBounds_toArray, List.set_cons_zero, List.set_cons_succ]
        refine wx_pure (i := 1) (d := some 17) (v := ?_) (by simp only [List.getElem?_toArray, List.getElem?_cons_succ, List.getElem?_cons_zero] <;> rfl) (by rfl) (by kernel_rfl) (by kernel_rfl) (by kernel_rfl) (fun _ _ _ h => h) (by rfl) ?_ ?_
        rotate_left
        · ((intro u); go_simp; try with_reducible rfl)
        try simp only [Act.put, List.setIfInBounds_toArray, List.set_cons_zero, List.set_cons_succ]
        refine wx_pure (i := 2) (d := some 18) (v := ?_) (by simp only [List.getElem?_toArray, List.getElem?_cons_succ, List.getElem?_cons_zero] <;> rfl) (by rfl) (by kernel_rfl) (by kernel_rfl) (by kernel_rfl) (fun _ _ _ h => h) (by rfl) ?_ ?_
        rotate_left
        · ((intro u); go_simp; try with_reducible rfl)
        try simp only [Act.put, List.setIfInBounds_toArray, List.set_cons_zero, List.set_cons_succ]
        refine wx_take (i := 3) (d := some 19) (v := ?_) (by simp only [List.getElem?_toArray, List.getElem?_cons_succ, List.getElem?_cons_zero] <;> rfl) (by rfl) (by kernel_rfl) (by kernel_rfl) (by kernel_rfl) (fun _ _ _ h => h) (by rfl) (by kernel_rfl) ?_ ?_
        rotate_left
        · ((intro u hu); have k1 := SlE.ld (E := eRp) rowRp ((hS.out.below hbw).keepR hu) hx.out; have k2 := SlE.ld (E := eRp) rowRp ((hS'.out.below hbw).keepR hu) hy.out; replace k1 : (ldT 56 (.pointer (some ⟨g0, off + k * 14, none⟩))).run Tryz.prog u = .ok (.value (.agg (rpC x).toArray)) u := k1; replace k2 : (ldT 56 (.pointer (some ⟨g1, off' + k * 14, none⟩))).run Tryz.prog u = .ok (.value (.agg (rpC y).toArray)) u := k2; go_simp; try with_reducible rfl)
        try simp only [Act.put, List.setIfInBounds_toArray, List.set_cons_zero, List.set_cons_succ]
        refine wx_pure (i := 4) (d := some 20) (v := ?_) (by simp only [List.getElem?_toArray, List.getElem?_cons_succ, List.getElem?_cons_zero] <;> rfl) (by rfl) (by kernel_rfl) (by kernel_rfl) (by kernel_rfl) (fun _ _ _ h => h) (by rfl) ?_ ?_
        rotate_left
        · ((intro u); go_simp; try with_reducible rfl)
        try simp only [Act.put, List.setIfInBounds_toArray, List.set_cons_zero, List.set_cons_succ]
        refine wx_pure (i := 5) (d := some 21) (v := ?_) (by simp only [List.getElem?_toArray, List.getElem?_cons_succ, List.getElem?_cons_zero] <;> rfl) (by rfl) (by kernel_rfl) (by kernel_rfl) (by kernel_rfl) (fun _ _ _ h => h) (by rfl) ?_ ?_
        rotate_left
        · ((intro u); go_simp; try with_reducible rfl)
        try simp only [Act.put, List.setIfInBounds_toArray, List.set_cons_zero, List.set_cons_succ]
        refine wx_pure (i := 6) (d := some 22) (v := ?_) (by simp only [List.getElem?_toArray, List.getElem?_cons_succ, List.getElem?_cons_zero] <;> rfl) (by rfl) (by kernel_rfl) (by kernel_rfl) (by kernel_rfl) (fun _ _ _ h => h) (by rfl) ?_ ?_
        rotate_left
        · ((intro u); go_simp; try with_reducible rfl)
        try simp only [Act.put, List.setIfInBounds_toArray, List.set_cons_zero, List.set_cons_succ]
        refine wx_take (i := 7) (d := some 23) (v := ?_) (by simp only [List.getElem?_toArray, List.getElem?_cons_succ, List.getElem?_cons_zero] <;> rfl) (by rfl) (by kernel_rfl) (by kernel_rfl) (by kernel_rfl) (fun _ _ _ h => h) (by rfl) (by kernel_rfl) ?_ ?_
        rotate_left
        · ((intro u hu); have k1 := SlE.ld (E := eRp) rowRp ((hS.out.below hbw).keepR hu) hx.out; have k2 := SlE.ld (E := eRp) rowRp ((hS'.out.below hbw).keepR hu) hy.out; replace k1 : (ldT 56 (.pointer (some ⟨g0, off + k * 14, none⟩))).run Tryz.prog u = .ok (.value (.agg (rpC x).toArray)) u := k1; replace k2 : (ldT 56 (.pointer (some ⟨g1, off' + k * 14, none⟩))).run Tryz.prog u = .ok (.value (.agg (rpC y).toArray)) u := k2; go_simp; try with_reducible rfl)
        try simp only [Act.put, List.setIfInBounds_toArray, List.set_cons_zero, List.set_cons_succ]
        refine wx_pure (i := 8) (d := some 24) (v := ?_) (by simp only [List.getElem?_toArray, List.getElem?_cons_succ, List.getElem?_cons_zero] <;> rfl) (by rfl) (by kernel_rfl) (by kernel_rfl) (by kernel_rfl) (fun _ _ _ h => h) (by rfl) ?_ ?_
        rotate_left
        · ((intro u); go_simp; try with_reducible rfl)
        try simp only [Act.put, List.setIfInBounds_toArray, List.set_cons_zero, List.set_cons_succ]
        refine wx_done (by kernel_rfl) ?_ _
        skip
        generalize rqQ x y = q at *
        cases q
        · have hne := Lib.hid (show ¬ xs = ys from fun e => by
            have h1 := hx.out
            rw [e, hy.out] at h1
            injection h1 with h1
            have := HQ.out.2 h1.symm
            cases this)
          go_wp2_with fail
          go_ret
          exact ⟨false, rfl, ⟨fun h => by (first | exact h.elim | cases h), fun h => absurd h hne.out⟩, hbw⟩
        · have hxy := HQ.out.1 rfl
          have htk2 := Lib.hid (show xs.take (k + 1) = ys.take (k + 1) by rw [List.take_add_one, List.take_add_one, htk.out, hx.out, hy.out, hxy])
          clear hxy HQ
          go_wp2_with fail
          go_roundw
          case rel => exact ⟨k + 1, by omega, by go_num, htk2, hbw⟩
          case measure => simp [intOf]; omega
      · have he := Lib.hid (show xs = ys by
          have h1 := htk.out
          rwa [List.take_of_length_le (by have := hl.out; omega), List.take_of_length_le (by have := hl'.out; omega)] at h1)
        go_wp2_with fail
        go_ret
        exact ⟨true, rfl, ⟨fun _ => he.out, fun _ => rfl⟩, hbw⟩
  · have h0 : ((n : Int) == (m : Int)) = false := by rw [beq_eq_false_iff_ne]; omega
    have hne := Lib.hid (show ¬ xs = ys from fun e => by have h1 := hl.out; have h2 := hl'.out; rw [e] at h1; omega)
    clear hnm
    go_enter Tryz.func25, Tryz.ntmps25
    go_wp2_with fail
    go_ret
    exact ⟨false, rfl, ⟨fun h => by (first | exact h.elim | cases h), fun h => absurd h hne.out⟩, Below.refl _ _⟩
end Go.Proofs.YtfiocnjogbpgoaaGreatDoor
namespace Go.Proofs.YtfiocnjogbpgoaaGreatDoor
open Go.RowKit Go.Shelf
set_option linter.unusedVariables false
set_option linter.unusedSimpArgs false

section
variable {α : Type} {P : α → Prop}
def onP (P : α → Prop) (E : Enc α) : Enc {x : α // P x} := ⟨fun x => E.enc x.1, E.k, E.pos, fun x => E.len x.1, fun x => E.one x.1⟩
theorem lift_P : ∀ xs : List α, (∀ x ∈ xs, P x) → ∃ ys : List {x : α // P x}, xs = ys.map (·.1)
  | [], _ => ⟨[], rfl⟩
  | x :: r, h => by
    obtain ⟨ys, hy⟩ := lift_P r (fun z hz => h z (List.mem_cons_of_mem _ hz))
    exact ⟨⟨x, h x List.mem_cons_self⟩ :: ys, by show x :: r = x :: ys.map _; rw [← hy]⟩
theorem cells_onP (E : Enc α) : ∀ ys : List {x : α // P x}, E.cells (ys.map (·.1)) = (onP P E).cells ys
  | [] => rfl
  | y :: r => by rw [List.map_cons, E.cells_cons, (onP P E).cells_cons, cells_onP E r]; rfl
variable [Inhabited {x : α // P x}]
theorem flatP_cells (E : Enc α) (ys : List {x : α // P x}) (j : Nat) (hj : j < (ys.toArray.size) * E.k) : ∃ u, ((onP P E).cells ys)[j]? = some u ∧ ((onP P E).enc ys.toArray[j / E.k]!)[j % E.k]? = some u := by
  have hp := E.pos
  have hq : j / E.k < ys.length := Nat.div_lt_of_lt_mul (by rw [Nat.mul_comm]; simpa using hj)
  have hm : j % E.k < E.k := Nat.mod_lt _ hp
  have hx : ys[j / E.k]? = some ys[j / E.k] := List.getElem?_eq_getElem hq
  have hl : j % E.k < ((onP P E).enc ys[j / E.k]).length := by rw [(onP P E).len]; exact hm
  refine ⟨((onP P E).enc ys[j / E.k])[j % E.k], ?_, ?_⟩
  · have := (onP P E).cells_get ys (j / E.k) _ hx (j % E.k) _ (List.getElem?_eq_getElem hl)
    rwa [show j / E.k * (onP P E).k + j % E.k = j by rw [Nat.mul_comm]; exact Nat.div_add_mod j E.k] at this
  · rw [getElem!_pos ys.toArray (j / E.k) (by simpa using hq)]
    simp
theorem holdsP_own {E : Enc α} {t : TypeId} {w : World} {B g n cap : Nat} {ys : List {x : α // P x}} (h : OwnE E t B w (.slice (some ⟨g, 0, none⟩) n cap) (ys.map (·.1))) : Sort.HoldsK (onP P E).enc (onP P E).k w g 0 ys.toArray := by
  intro j hj
  have hj' := hj
  rw [Sort.size_flatK] at hj'
  obtain ⟨u, h1, h2⟩ := flatP_cells E ys j (by simpa [onP] using hj')
  rw [Sort.get_flatK _ _ _ _ hj']
  have hc := World.ownsRow.cells h (g := g) rfl j u (by rw [cells_onP]; exact h1)
  rw [Addr.add_lit, Nat.zero_add] at hc
  refine ⟨?_, ?_⟩
  · rw [Nat.zero_add, hc]
    show some u = some (((onP P E).enc ys.toArray[j / E.k]!)[j % E.k]!)
    rw [List.getElem!_eq_getElem?_getD, h2]; rfl
  · rcases h.2 with ⟨hv, _⟩ | ⟨g', cap', cur, hv, hg, hh, _⟩
    · cases hv
    · cases hv; exact frozen_of_row w g _ _ _ hh
theorem below_sortP {enc : {x : α // P x} → List Value} {k : Nat} {w : World} {B g off m : Nat} {d : Array {x : α // P x}} {os : Array Obj} (hg : B ≤ g) (hB : B ≤ w.heap.size) : Below B w (sortWorldK enc k w g off m d os) := by
  refine ⟨rfl, rfl, rfl, size_sortWorldK_c _ _ _ _ _ _ _ _, fun k hk => ?_⟩
  unfold sortWorldK Sort.grow Sort.putRowK Sort.putRow Sort.mapBlock Sort.ahead
  show (w.heap.modify g _ ++ os)[k]? = _
  rw [Array.getElem?_append_left (by simp; omega), Array.getElem?_modify, if_neg (by omega)]
theorem perm_ofP {d d' : Array {x : α // P x}} (h : Sort.PermIn 0 d.size d d') : d'.toList.Perm d.toList := by
  obtain ⟨h1, _, h3⟩ := h
  have a : d'.extract 0 d.size = d' := by rw [← h1]; simp
  have b : d.extract 0 d.size = d := by simp
  rw [a, b] at h3
  exact h3
theorem own_sortedP {E : Enc α} {t : TypeId} {w : World} {B g n cap : Nat} {ys : List {x : α // P x}} {d' : Array {x : α // P x}} {m : Nat} {os : Array Obj} (h : OwnE E t B w (.slice (some ⟨g, 0, none⟩) n cap) (ys.map (·.1))) (hd : d'.size = ys.length) :
    OwnE E t B (sortWorldK (onP P E).enc (onP P E).k w g 0 m d' os) (.slice (some ⟨g, 0, none⟩) n cap) (d'.toList.map (·.1)) := by
  obtain ⟨h1, h2⟩ := h
  have hlen : (d'.toList.map (·.1)).length = ys.length := by simp [hd]
  have hcl : (E.cells (d'.toList.map (·.1))).length = ys.length * E.k := by rw [E.cells_len, hlen]
  refine ⟨by rw [hcl, hlen], ?_⟩
  rcases h2 with ⟨hv, _⟩ | ⟨g', cap', cur, hv, hB, hh, hn, hc, hsz, htake⟩
  · cases hv
  · cases hv
    rw [List.length_map] at hn htake
    have hg : g < w.heap.size := (Array.getElem?_eq_some_iff.1 hh).1
    refine .inr ⟨g, cap, Sort.putCells id 0 (Sort.flatK (onP P E).enc (onP P E).k d') cur, by rw [hlen, List.length_map], hB, ?_, by rw [hlen]; exact hn, hc, ?_, ?_⟩
    · unfold sortWorldK Sort.grow Sort.putRowK Sort.putRow Sort.mapBlock Sort.ahead
      show (w.heap.modify g _ ++ os)[g]? = _
      rw [Array.getElem?_append_left (by simp; omega), Array.getElem?_modify, if_pos rfl, hh]
      rfl
    · unfold Sort.putCells; rw [Array.size_mapIdx]; exact hsz
    · have hfs : (Sort.flatK (onP P E).enc (onP P E).k d').size = ys.length * E.k := by rw [Sort.size_flatK, hd]; rfl
      have hle : ys.length * E.k ≤ cur.size := by rw [hsz]; exact Nat.mul_le_mul_right _ hn
      rw [hlen]
      apply List.ext_getElem
      · have e3 : (Sort.putCells id 0 (Sort.flatK (onP P E).enc (onP P E).k d') cur).toList.length = cur.size := by unfold Sort.putCells; simp
        rw [List.length_take, e3, hcl]
        omega
      · intro j j1 j2
        rw [hcl] at j2
        rw [List.getElem_take, Array.getElem_toList]
        unfold Sort.putCells
        rw [Array.getElem_mapIdx, if_pos ⟨Nat.zero_le _, by rw [hfs]; omega⟩, Nat.sub_zero]
        have hj' : j < (Sort.flatK (onP P E).enc (onP P E).k d').size := by rw [hfs]; exact j2
        have hj2 := hj'
        rw [Sort.size_flatK] at hj2
        rw [Sort.get_flatK _ _ _ _ hj2]
        obtain ⟨u, k1, k2⟩ := flatP_cells E d'.toList j (by rw [Sort.size_flatK] at hj'; simpa [onP] using hj')
        have k3 : (E.cells (d'.toList.map (·.1)))[j]? = some u := by rw [cells_onP]; exact k1
        have e : (E.cells (d'.toList.map (·.1)))[j] = u := by
          have := (List.getElem?_eq_some_iff.1 k3).2
          exact this
        rw [e]
        have e2 : d'.toList.toArray = d' := by simp
        rw [e2] at k2
        show id (((onP P E).enc d'[j / E.k]!)[j % E.k]!) = u
        rw [List.getElem!_eq_getElem?_getD, k2]; rfl
end

/-! Orders. -/
structure Cm {α : Type} (f : α → α → Int) : Prop where
  anti : ∀ x y, f y x = - f x y
  trans : ∀ x y z, f x y ≤ 0 → f y z ≤ 0 → f x z ≤ 0
theorem Cm.self {α : Type} {f : α → α → Int} (h : Cm f) (x : α) : f x x = 0 := by have := h.anti x x; omega
theorem Cm.lt {α : Type} {f : α → α → Int} (h : Cm f) {x y z : α} (a : f x y ≤ 0) (b : f y z ≤ 0) (c : f x y < 0 ∨ f y z < 0) : f x z < 0 := by
  have h1 := h.trans _ _ _ a b
  rcases Int.lt_or_eq_of_le h1 with k | k
  · exact k
  · exfalso
    have e := h.anti x z
    have t1 := h.trans z x y (by omega) a
    have t2 := h.trans y z x b (by omega)
    have e1 := h.anti y z
    have e2 := h.anti x y
    omega
/-- One order, then another. -/
def thn {α : Type} (f g : α → α → Int) (x y : α) : Int := if f x y = 0 then g x y else f x y
theorem Cm.thn {α : Type} {f g : α → α → Int} (hf : Cm f) (hg : Cm g) : Cm (thn f g) where
  anti := fun x y => by
    unfold Proofs.YtfiocnjogbpgoaaGreatDoor.thn
    have e := hf.anti x y
    by_cases h : f x y = 0
    · rw [if_pos h, if_pos (by omega)]; exact hg.anti x y
    · rw [if_neg h, if_neg (by omega)]; exact e
  trans := fun x y z a b => by
    unfold Proofs.YtfiocnjogbpgoaaGreatDoor.thn at a b ⊢
    have a' : f x y ≤ 0 := by split at a <;> omega
    have b' : f y z ≤ 0 := by split at b <;> omega
    by_cases h1 : f x y = 0
    · by_cases h2 : f y z = 0
      · have e : f x z = 0 := by
          have t1 := hf.trans x y z a' b'
          have e1 := hf.anti x y
          have e2 := hf.anti y z
          have e3 := hf.anti x z
          have t2 := hf.trans z y x (by omega) (by omega)
          omega
        rw [if_pos e]
        rw [if_pos h1] at a
        rw [if_pos h2] at b
        exact hg.trans x y z a b
      · have := hf.lt a' b' (.inr (by omega))
        rw [if_neg (by omega)]; omega
    · have := hf.lt a' b' (.inl (by omega))
      rw [if_neg (by omega)]; omega
theorem Cm.on {α β : Type} {f : β → β → Int} (h : Cm f) (p : α → β) : Cm (fun x y => f (p x) (p y)) := ⟨fun x y => h.anti _ _, fun x y z => h.trans _ _ _⟩
theorem cm_int : Cm Lib.compareInt := ⟨compareInt_anti, fun x y z a b => by
  unfold Lib.compareInt at a b ⊢
  (repeat' split at a) <;> (repeat' split at b) <;> (repeat' split) <;> omega⟩
theorem cm_n : Cm cmpN := ⟨cmpN_anti, fun x y z a b => by
  unfold cmpN at a b ⊢
  (repeat' split at a) <;> (repeat' split at b) <;> (repeat' split) <;> omega⟩
theorem cb_trans : ∀ x y z : List UInt8, Lib.compareBytes x y ≤ 0 → Lib.compareBytes y z ≤ 0 → Lib.compareBytes x z ≤ 0
  | [], _, [], _, _ => by decide
  | [], _, _ :: _, _, _ => by unfold Lib.compareBytes; decide
  | _ :: _, [], _, a, _ => by unfold Lib.compareBytes at a; exact absurd a (by decide)
  | _ :: _, _ :: _, [], _, b => by unfold Lib.compareBytes at b; exact absurd b (by decide)
  | x :: a, y :: b, z :: c, h1, h2 => by
    unfold Lib.compareBytes at h1 h2 ⊢
    by_cases xy : x < y
    · by_cases yz : y < z
      · rw [if_pos (UInt8.lt_trans xy yz)]; decide
      · rw [if_neg yz] at h2
        by_cases zy : z < y
        · rw [if_pos zy] at h2; exact absurd h2 (by decide)
        · have e : y = z := UInt8.le_antisymm (UInt8.not_lt.1 zy) (UInt8.not_lt.1 yz)
          subst e; rw [if_pos xy]; decide
    · rw [if_neg xy] at h1
      by_cases yx : y < x
      · rw [if_pos yx] at h1; exact absurd h1 (by decide)
      · rw [if_neg yx] at h1
        have e : x = y := UInt8.le_antisymm (UInt8.not_lt.1 yx) (UInt8.not_lt.1 xy)
        subst e
        by_cases yz : x < z
        · rw [if_pos yz]; decide
        · rw [if_neg yz] at h2 ⊢
          by_cases zy : z < x
          · rw [if_pos zy] at h2; exact absurd h2 (by decide)
          · rw [if_neg zy] at h2 ⊢
            exact cb_trans a b c h1 h2
theorem cm_bytes : Cm Lib.compareBytes := ⟨compareBytes_anti, cb_trans⟩
end Go.Proofs.YtfiocnjogbpgoaaGreatDoor
namespace Go.Proofs.YtfiocnjogbpgoaaGreatDoor
open Go.RowKit Go.Shelf
set_option linter.unusedVariables false
set_option linter.unusedSimpArgs false

theorem firstZ_thn (a : Int) (l : List Int) : firstZ (a :: l) = if a = 0 then firstZ l else a := rfl
theorem cm_nil {α : Type} : Cm (fun _ _ : α => (0 : Int)) := ⟨fun _ _ => rfl, fun _ _ _ _ _ => by decide⟩
theorem cm_fl : Cm cmpFl := by
  have h := Cm.thn (cm_int.on Fl.p) (Cm.thn (cm_n.on fun x : Fl => x.f.n) (Cm.thn (cm_n.on fun x : Fl => x.t.n) (Cm.thn (cm_int.on Fl.fp) (Cm.thn (cm_int.on Fl.tp) cm_nil))))
  have e : cmpFl = thn (fun x y : Fl => Lib.compareInt x.p y.p) (thn (fun x y : Fl => cmpN x.f.n y.f.n) (thn (fun x y : Fl => cmpN x.t.n y.t.n) (thn (fun x y : Fl => Lib.compareInt x.fp y.fp) (thn (fun x y : Fl => Lib.compareInt x.tp y.tp) (fun _ _ => 0))))) := by
    funext x y
    unfold cmpFl thn
    rw [firstZ_thn, firstZ_thn, firstZ_thn, firstZ_thn, firstZ_thn]
    rfl
  rw [e]; exact h
theorem cm_rp : Cm cmpRp := by
  have h := Cm.thn (cm_int.on Rp.hour) (Cm.thn (cm_bytes.on Rp.node) (Cm.thn (cm_int.on fun x : Rp => rank x.out) (Cm.thn (cm_fl.on Rp.fl) cm_nil)))
  have e : cmpRp = thn (fun x y : Rp => Lib.compareInt x.hour y.hour) (thn (fun x y : Rp => Lib.compareBytes x.node y.node) (thn (fun x y : Rp => Lib.compareInt (rank x.out) (rank y.out)) (thn (fun x y : Rp => cmpFl x.fl y.fl) (fun _ _ => 0)))) := by
    funext x y
    unfold cmpRp thn
    rw [firstZ_thn, firstZ_thn, firstZ_thn, firstZ_thn]
    rfl
  rw [e]; exact h
abbrev RpU := {r : Rp // r.U}
instance : Inhabited RpU := ⟨⟨⟨[], 0, false, ⟨0, ⟨false, 0, 0⟩, ⟨false, 0, 0⟩, 0, 0⟩, 0, 0⟩, ⟨⟨⟨by decide, by decide⟩, ⟨by decide, by decide⟩⟩, ⟨⟨by decide, by decide⟩, ⟨by decide, by decide⟩⟩, ⟨by decide, by decide⟩, ⟨by decide, by decide⟩, ⟨by decide, by decide⟩⟩, ⟨by decide, by decide⟩, by decide⟩⟩
def cmpRU (x y : RpU) : Int := cmpRp x.1 y.1
theorem ltRU_iff (x y : RpU) : ltOf cmpRU x y = true ↔ cmpRp x.1 y.1 < 0 := by
  unfold ltOf cmpRU
  simp
theorem ltRU_le (x y : RpU) (h : ltOf cmpRU x y = false) : cmpRp y.1 x.1 ≤ 0 := by
  have := mt (ltRU_iff x y).2 (by rw [h]; decide)
  have := cm_rp.anti x.1 y.1
  omega
theorem ltRU_not (x y : RpU) (h : cmpRp y.1 x.1 ≤ 0) : ltOf cmpRU x y = false := by
  cases e : ltOf cmpRU x y
  · rfl
  · have := (ltRU_iff x y).1 e
    have := cm_rp.anti x.1 y.1
    omega
theorem swo_cmpRU : Sort.SWO (ltOf cmpRU) where
  irrefl := fun x => ltRU_not x x (by rw [cm_rp.self]; exact Int.le_refl 0)
  trans := fun x y z a b => (ltRU_iff x z).2 (cm_rp.lt (Int.le_of_lt ((ltRU_iff x y).1 a)) (Int.le_of_lt ((ltRU_iff y z).1 b)) (.inl ((ltRU_iff x y).1 a)))
  ntrans := fun x y z a b => ltRU_not x z (cm_rp.trans _ _ _ (ltRU_le y z b) (ltRU_le x y a))
theorem pairwise_ofR {d : Array RpU} {n : Nat} (hn : d.size = n) (h : Sort.SortedIn (ltOf cmpRU) 0 n d) : (d.toList.map (·.1)).Pairwise (fun x y => cmpRp x y ≤ 0) := by
  rw [List.pairwise_map, List.pairwise_iff_getElem]
  intro i j hi hj hij
  have := ltRU_le _ _ (h i j (Nat.zero_le _) hij (by rw [← hn]; simpa using hj))
  rw [getElem!_pos d i (by simpa using hi), getElem!_pos d j (by simpa using hj)] at this
  simpa using this
end Go.Proofs.YtfiocnjogbpgoaaGreatDoor
namespace Go.Proofs.YtfiocnjogbpgoaaGreatDoor
open Go.RowKit Go.Shelf
set_option linter.unusedVariables false
set_option linter.unusedSimpArgs false

end Go.Proofs.YtfiocnjogbpgoaaGreatDoor
namespace Go.Proofs.YtfiocnjogbpgoaaGreatDoor
open Go.RowKit Go.Shelf
set_option linter.unusedVariables false
set_option linter.unusedSimpArgs false

/-- What a sort of one's own reports gives. -/
def SrtR (B : Nat) (w : World) (v : Value) (xs : List Rp) (e : Ending) (w' : World) : Prop :=
  e = .returned (.tuple #[]) ∧ ∃ qs : List Rp, qs.Perm xs ∧ qs.Pairwise (fun x y => cmpRp x y ≤ 0) ∧ OwnE eRp 56 B w' v qs ∧ Below B w w'
theorem lays_insRp (blk off size : Nat) (w : World) : CmpLays Tryz.prog 53 #[] (onP Rp.U eRp).enc (onP Rp.U eRp).k cmpRU blk off size w :=
  fun _ _ _ _ x y => (repOrder_d x.1 y.1 _ x.2 y.2).mono fun _ _ h => ⟨h.1, h.2.grows⟩
theorem noneI_any {ρ : Go.Shelf.Ren} (L : SlLaysF0.n20 Tryz.prog ρ) (p : Option Addr) (cap : Nat) (fv : Value) (w : World) :
    Calls Tryz.prog (ρ.f 20) #[.slice p 0 cap, .int .i64 0, .int .i64 0, fv] w fun e w' => e = .returned (.tuple #[]) ∧ w' = w := AnyF.insertionSortCmpFunc_none L p cap fv w

set_option maxHeartbeats 2000000 in
set_option maxRecDepth 100000 in
theorem insRp_any (B : Nat) (A : Option Addr) (n cap : Nat) (v : Value) (hv : v = .slice A n cap) (xs : List Rp) (w : World) (hown : OwnE eRp 56 B w v xs) (hU : ∀ x ∈ xs, x.U) (hb : B ≤ w.heap.size) (hn : n ≤ 1000000) :
    Calls Tryz.prog 163 #[v, .int .i64 0, .int .i64 n, .func (.func 53) #[] #[]] w (SrtR B w v xs) := by
  by_cases h0 : xs = []
  · subst h0
    obtain ⟨A', cap', hvv, hS⟩ := hown.sl
    rw [hv] at hvv
    injection hvv with e1 e2 e3
    subst hv e1 e2 e3
    refine (noneI_any Tryz.insRep A cap _ w).mono ?_
    rintro e w' ⟨rfl, rfl⟩
    exact ⟨rfl, [], List.Perm.refl _, List.Pairwise.nil, hown, Below.refl _ _⟩
  · obtain ⟨ys, rfl⟩ := lift_P xs hU
    obtain ⟨g, cap', hvv, hg1, hg2, hcap, _⟩ := hown.form h0
    rw [hv] at hvv
    injection hvv with e1 e2 e3
    subst hv e1 e2 e3
    have hH := holdsP_own (E := eRp) hown
    have eg : ∀ args w, (callFunc 53 args).run Tryz.prog w = .ok (.enter 53 args) w := enters_of Tryz.func53 (by kernel_rfl) rfl
    have hcon := AnyQ.insertionSortCmpFunc Tryz.insRep 14 Tryz.isAgg56 Tryz.sizeOf56 (onP Rp.U eRp).enc (onP Rp.U eRp).len (onP Rp.U eRp).one cmpRU 53 #[] g 0 cap 0 ys.toArray.size ys.toArray w eg (lays_insRp g 0 ys.toArray.size w) hH hg2 (Nat.zero_le _) (Nat.le_refl _) (by simp at hn ⊢; omega)
    change Calls Tryz.prog 163 _ _ _ at hcon
    have e0 : ys.toArray.size = ys.length := by simp
    have hI := Sort.insertionSort_holds (lt := ltOf cmpRU) swo_cmpRU ys.toArray 0 ys.toArray.size (Nat.zero_le _) (Nat.le_refl _)
    generalize Sort.insertionSort (ltOf cmpRU) ys.toArray 0 ys.toArray.size = d' at hcon hI
    obtain ⟨hp, hs⟩ := hI
    rw [e0] at hcon hs
    rw [List.length_map] at hown ⊢
    refine hcon.mono ?_
    rintro e w' ⟨rfl, m, os, rfl⟩
    have hsz : d'.size = ys.length := hp.1.trans e0
    refine ⟨rfl, List.map (fun x : RpU => x.1) d'.toList, by simpa using (perm_ofP hp).map (fun x : RpU => x.1), pairwise_ofR hsz hs, ?_, below_sortP hg1 hb⟩
    exact own_sortedP (E := eRp) hown hsz

set_option maxHeartbeats 2000000 in
set_option maxRecDepth 100000 in
theorem stableRp_any (B : Nat) (A : Option Addr) (n cap : Nat) (v : Value) (hv : v = .slice A n cap) (xs : List Rp) (w : World) (hown : OwnE eRp 56 B w v xs) (hU : ∀ x ∈ xs, x.U) (hb : B ≤ w.heap.size) (hn : n < 20) :
    Calls Tryz.prog 52 #[v, .func (.func 53) #[] #[]] w (SrtR B w v xs) := by
  have HC := Lib.hid (insRp_any B A n cap v hv xs w hown hU hb (by omega))
  subst hv
  clear hown hU hb
  have HS : Hid (Calls Tryz.prog 99 #[.slice A n cap, .int .i64 n, .func (.func 53) #[] #[]] w (SrtR B w (.slice A n cap) xs)) := by
    refine Lib.hid ?_
    have h1 : ¬ (20 : Int) ≤ n := by omega
    have h2 : ¬ (20 : Int) < n := by omega
    go_enter Tryz.func99, Tryz.ntmps99
    go_wp2_with fail
    refine wp_loop_rounds 1 ?_
    rw [rounds_succ]
    go_wp2_with fail
    refine HC.out.mono ?_
    intro e w1 hq
    obtain ⟨rfl, hq⟩ := hq
    replace hq := Lib.hid hq
    go_wp2_with fail
    refine wp_loop_rounds 1 ?_
    rw [rounds_succ]
    go_wp2_with fail
    refine bodyPost_ret (v := .tuple #[]) ?_ rfl ⟨rfl, hq.out⟩
    simp [results, Tryz.results99, go_sem]
  clear HC
  go_enter Tryz.func52, Tryz.ntmps52
  go_wp2_with fail
  refine HS.out.mono ?_
  intro e w1 hq
  obtain ⟨rfl, hq⟩ := hq
  replace hq := Lib.hid hq
  go_wp2_with fail
  refine bodyPost_ret (v := .tuple #[]) ?_ rfl ⟨rfl, hq.out⟩
  simp [results, Tryz.results52, go_sem]

set_option maxHeartbeats 2000000 in
set_option maxRecDepth 100000 in
theorem insEnd_any (B : Nat) (A : Option Addr) (n cap : Nat) (v : Value) (hv : v = .slice A n cap) (xs : List Rp) (w : World) (hown : OwnE eRp 56 B w v xs) (hU : ∀ x ∈ xs, x.U) (h0 : xs ≠ []) (hb : B ≤ w.heap.size) (hn : n ≤ 1000000) :
    Calls Tryz.prog 163 #[v, .int .i64 n, .int .i64 n, .func (.func 53) #[] #[]] w fun e w' => e = .returned (.tuple #[]) ∧ OwnE eRp 56 B w' v xs ∧ Below B w w' := by
  obtain ⟨ys, rfl⟩ := lift_P xs hU
  obtain ⟨g, cap', hvv, hg1, hg2, hcap, _⟩ := hown.form h0
  rw [hv] at hvv
  injection hvv with e1 e2 e3
  subst hv e1 e2 e3
  have hH := holdsP_own (E := eRp) hown
  have eg : ∀ args w, (callFunc 53 args).run Tryz.prog w = .ok (.enter 53 args) w := enters_of Tryz.func53 (by kernel_rfl) rfl
  have hcon := AnyQ.insertionSortCmpFunc Tryz.insRep 14 Tryz.isAgg56 Tryz.sizeOf56 (onP Rp.U eRp).enc (onP Rp.U eRp).len (onP Rp.U eRp).one cmpRU 53 #[] g 0 cap ys.toArray.size ys.toArray.size ys.toArray w eg (lays_insRp g 0 ys.toArray.size w) hH hg2 (Nat.le_refl _) (Nat.le_refl _) (by simp at hn ⊢; omega)
  change Calls Tryz.prog 163 _ _ _ at hcon
  have e0 : ys.toArray.size = ys.length := by simp
  have hI := (Sort.insertionSort_holds (lt := ltOf cmpRU) swo_cmpRU ys.toArray ys.toArray.size ys.toArray.size (Nat.le_refl _) (Nat.le_refl _)).1
  generalize Sort.insertionSort (ltOf cmpRU) ys.toArray ys.toArray.size ys.toArray.size = d' at hcon hI
  have hd : d' = ys.toArray := by
    apply Array.ext hI.1
    intro i a b
    have := hI.2.1 i (.inl b)
    rw [getElem!_pos d' i a, getElem!_pos ys.toArray i b] at this
    exact this
  subst hd
  rw [e0] at hcon
  rw [List.length_map] at hown ⊢
  refine hcon.mono ?_
  rintro e w' ⟨rfl, m, os, rfl⟩
  refine ⟨rfl, ?_, below_sortP hg1 hb⟩
  have := own_sortedP (E := eRp) (d' := ys.toArray) (m := m) (os := os) hown e0
  rw [show ys.toArray.toList = ys by simp] at this
  exact this

set_option maxHeartbeats 2000000 in
set_option maxRecDepth 100000 in
theorem stable20_any (B : Nat) (A : Option Addr) (cap : Nat) (v : Value) (hv : v = .slice A 20 cap) (xs : List Rp) (w : World) (hown : OwnE eRp 56 B w v xs) (hU : ∀ x ∈ xs, x.U) (h0 : xs ≠ []) (hb : B ≤ w.heap.size) :
    Calls Tryz.prog 52 #[v, .func (.func 53) #[] #[]] w (SrtR B w v xs) := by
  have HC : Hid (Calls Tryz.prog 163 #[v, .int .i64 0, .int .i64 20, .func (.func 53) #[] #[]] w (SrtR B w v xs)) := Lib.hid (insRp_any B A 20 cap v hv xs w hown hU hb (by decide))
  have HE : Hid (∀ qs w1, OwnE eRp 56 B w1 v qs → (∀ x ∈ qs, x.U) → qs ≠ [] → B ≤ w1.heap.size → Calls Tryz.prog 163 #[v, .int .i64 20, .int .i64 20, .func (.func 53) #[] #[]] w1 fun e w' => e = .returned (.tuple #[]) ∧ OwnE eRp 56 B w' v qs ∧ Below B w1 w') := Lib.hid (fun qs w1 a b c d => insEnd_any B A 20 cap v hv qs w1 a b c d (by decide))
  subst hv
  replace hU := Lib.hid hU
  replace h0 := Lib.hid h0
  clear hown
  have HS : Hid (Calls Tryz.prog 99 #[.slice A 20 cap, .int .i64 20, .func (.func 53) #[] #[]] w (SrtR B w (.slice A 20 cap) xs)) := by
    refine Lib.hid ?_
    go_enter Tryz.func99, Tryz.ntmps99
    go_wp2_with fail
    refine wp_loop_rounds 2 ?_
    rw [rounds_succ]
    go_wp2_with fail
    refine HC.out.mono ?_
    intro e w1 hq
    obtain ⟨rfl, qs, hp, hs, hown, hb1⟩ := hq
    have HE2 := Lib.hid (HE.out qs w1 hown (fun x hx => hU.out x (hp.mem_iff.1 hx)) (fun k => h0.out (by subst k; exact List.length_eq_zero_iff.1 hp.length_eq.symm)) (Nat.le_trans hb hb1.size))
    replace hp := Lib.hid hp
    replace hs := Lib.hid hs
    clear HC HE hown
    go_wp2_with fail
    rw [rounds_succ]
    go_wp2_with fail
    refine HE2.out.mono ?_
    rintro e w2 ⟨rfl, hown, hb2⟩
    replace hown := Lib.hid hown
    go_wp2_with fail
    refine wp_loop_rounds 1 ?_
    rw [rounds_succ]
    go_wp2_with fail
    refine bodyPost_ret (v := .tuple #[]) ?_ rfl ⟨rfl, qs, hp.out, hs.out, hown.out, hb1.trans hb2⟩
    simp [results, Tryz.results99, go_sem]
  clear HC HE hU h0
  go_enter Tryz.func52, Tryz.ntmps52
  go_wp2_with fail
  refine HS.out.mono ?_
  intro e w1 hq
  obtain ⟨rfl, hq⟩ := hq
  replace hq := Lib.hid hq
  go_wp2_with fail
  refine bodyPost_ret (v := .tuple #[]) ?_ rfl ⟨rfl, hq.out⟩
  simp [results, Tryz.results52, go_sem]
theorem stableAll_any (B : Nat) (A : Option Addr) (n cap : Nat) (v : Value) (hv : v = .slice A n cap) (xs : List Rp) (w : World) (hown : OwnE eRp 56 B w v xs) (hU : ∀ x ∈ xs, x.U) (hb : B ≤ w.heap.size) (hnl : n = xs.length) (hn : n ≤ 20) :
    Calls Tryz.prog 52 #[v, .func (.func 53) #[] #[]] w (SrtR B w v xs) := by
  by_cases h : n < 20
  · exact stableRp_any B A n cap v hv xs w hown hU hb h
  · have e : n = 20 := by omega
    subst e
    exact stable20_any B A cap v hv xs w hown hU (by intro k; subst k; exact absurd hnl (by decide)) hb
end Go.Proofs.YtfiocnjogbpgoaaGreatDoor
