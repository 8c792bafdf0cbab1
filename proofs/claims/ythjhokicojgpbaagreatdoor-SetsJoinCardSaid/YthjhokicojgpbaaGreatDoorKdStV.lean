/- Sets: equality of lists. -/
import Derived.Test.YthjhokicojgpbaaGreatDoorKdStT
namespace Go.Proofs.YthjhokicojgpbaaGreatDoor
open Go.RowKit
set_option linter.unusedVariables false
set_option linter.unusedSimpArgs false

theorem pfsOf_len {l : List (Nat × Nat)} {n : Nat} (h : ∀ x ∈ l, Row x) (hl : l.length ≤ n) : (pfsOf l).length ≤ n * 258 := by
  have h1 := cuts_len l h
  have h2 := Nat.mul_le_mul_right 258 hl
  unfold pfsOf
  rw [List.length_map]; exact Nat.le_trans h1 h2

set_option maxHeartbeats 2000000 in
set_option maxRecDepth 100000 in
/-- The reference's Least, without the bound. -/
theorem leastOf_any (A : Option Addr) (n cap : Nat) (ps : List Pf) (w : World) (hS : SlE ePf w A n cap ps) (hn : n ≤ 1000) (hR : ∀ p ∈ ps, p.R) :
    Calls Tryz.prog 32 #[.slice A n cap] w fun e w' => ∃ ys, Joined ys (ps.map rgP) ∧ ys.length ≤ n ∧ GivesO ePf 52 w.heap.size (pfsOf (ys.map rowA)) e w' ∧ Below w.heap.size w w' := by
  have HS := Lib.hid (ofS_any A n cap ps w hS (by omega) hR)
  clear hS hR
  go_enter Tryz.func32, Tryz.ntmps32
  go_wp2_with fail
  refine HS.out.mono ?_
  rintro e w1 ⟨ys, hy1, hy2, ⟨A2, cap2, rfl, hSl, hA⟩, hb1⟩
  have HP := Lib.hid (prefixesR_any A2 ys.length cap2 ys w1 hSl (by omega) hy1.2.2)
  replace hy1 := Lib.hid hy1
  clear HS hSl hA
  obtain ⟨L, hL⟩ : ∃ m, m = ys.length := ⟨_, rfl⟩
  rw [← hL] at HP hy2 ⊢
  replace hL := Lib.hid hL
  go_wp2_with fail
  refine HP.out.mono ?_
  rintro e w2 ⟨⟨v4, rfl, ho4⟩, hb2⟩
  clear HP
  go_wp2_with fail
  go_ret
  exact ⟨ys, hy1.out, by rw [← hL.out]; exact hy2, ⟨v4, rfl, ho4.mono hb1.size⟩, hb1.trans (hb2.mono hb1.size)⟩

end Go.Proofs.YthjhokicojgpbaaGreatDoor
namespace Go.Proofs.YthjhokicojgpbaaGreatDoor
open Go.RowKit
set_option linter.unusedVariables false
set_option linter.unusedSimpArgs false

/-- Behind what has grown. -/
theorem SlE.keepG {α : Type} {E : Enc α} {w u : World} {A : Option Addr} {n cap : Nat} {xs : List α} (h : SlE E w A n cap xs) (hu : w.grownBy u none) : SlE E u A n cap xs := h.below (gb2B hu)
/-- Two prefixes are equal. -/
def pfQQ (p q : Pf) : Bool := pfQ p.1.s q.1.s p.1.hi p.1.lo q.1.hi q.1.lo p.2 q.2
@[go_sem] theorem run_nePfA (x y : Operand) (p q : Pf) (w : World) : (nePf x y (.agg (pfC p).toArray) (.agg (pfC q).toArray)).run Tryz.prog w = .ok (.value (.bool (!pfQQ p q))) w :=
  run_nePf x y p.1.s q.1.s p.1.hi p.1.lo q.1.hi q.1.lo p.2 q.2 w
@[go_sem] theorem run_nePfE (x y : Operand) (p q : Pf) (w : World) : (nePf x y (.agg (ePf.enc p).toArray) (.agg (ePf.enc q).toArray)).run Tryz.prog w = .ok (.value (.bool (!pfQQ p q))) w := run_nePfA x y p q w
theorem pfQQ_iff (p q : Pf) : pfQQ p q = true ↔ p = q := by
  obtain ⟨⟨s, hi, lo⟩, n⟩ := p
  obtain ⟨⟨t, hh, l⟩, m⟩ := q
  unfold pfQQ pfQ
  simp only [Bool.and_eq_true, beq_iff_eq]
  constructor
  · rintro h
    obtain ⟨h1, h2, h3, h4⟩ : s = t ∧ hi = hh ∧ lo = l ∧ n = m := by simpa [and_assoc] using h
    subst h1; subst h2; subst h3; subst h4; rfl
  · intro h
    injection h with h1 h2
    injection h1 with h3 h4 h5
    subst h2; subst h3; subst h4; subst h5
    simp
/-- Two ranges are equal. -/
def rgQQ (x y : Ad × Ad) : Bool := adE x.1 y.1 && adE x.2 y.2
theorem adE_eq (a b : Ad) : adE a b = true ↔ a = b := by
  obtain ⟨s, hi, lo⟩ := a
  obtain ⟨t, hh, l⟩ := b
  unfold adE adQ
  simp only [Bool.and_eq_true, beq_iff_eq]
  constructor
  · rintro h
    obtain ⟨h1, h2, h3⟩ : s = t ∧ hi = hh ∧ lo = l := by simpa [and_assoc] using h
    subst h1; subst h2; subst h3; rfl
  · intro h
    injection h with h3 h4 h5
    subst h3; subst h4; subst h5
    simp
set_option maxHeartbeats 1000000 in
theorem rg_equalIn (x y : Ad × Ad) (w : World) : (Op.equalIn 10000 49 (.agg (rgC x).toArray) (.agg (rgC y).toArray)).run Tryz.prog w = .ok (rgQQ x y) w := by
  unfold rgC
  rw [show (10000 : Nat) = 9999 + 1 from rfl, run_equalIn_agg w 9999 49 _ _ (by kernel_rfl) (by kernel_rfl)]
  simp only [Program.fieldsOf, Tryz.underlying49]
  go_simp
  unfold rgQQ adE adQ
  (repeat' split) <;> simp_all
def neRg (x y : Operand) (a b : Value) : Sem Next := do
  let v ← (do eqGuard .neq 49 x y a b; binOp .neq 49 a b)
  pure (.value v)
@[go_sem ↓ high] theorem execOp_neRg' (ρ : Operand → Value) (dst : Option Tmp) (x y : Operand) (r ty : TypeId) (pos : String) (after : Array Edge) (guard : Option (Nat × Bool)) :
    execOp ρ ⟨dst, .binOp .neq 49 x y r, ty, pos, after, guard⟩ = neRg x y (ρ x) (ρ y) := rfl
@[go_sem high] theorem execOp_neRg (ρ : Operand → Value) (dst : Option Tmp) (x y : Operand) (r ty : TypeId) (pos : String) (after : Array Edge) (guard : Option (Nat × Bool)) :
    execOp ρ ⟨dst, .binOp .neq 49 x y r, ty, pos, after, guard⟩ = neRg x y (ρ x) (ρ y) := rfl
@[go_sem] theorem run_neRg (x y : Operand) (a b : Ad × Ad) (w : World) : (neRg x y (.agg (rgC a).toArray) (.agg (rgC b).toArray)).run Tryz.prog w = .ok (.value (.bool (!rgQQ a b))) w := by
  unfold neRg
  simp only [Sem.run_bind, run_neq_struct, rg_equalIn, run_eqGuard_agg _ _ _ _ _ _ _ Tryz.eqGuardType49, Result.andThen_ok, Sem.run_pure]
@[go_sem] theorem run_neRgE (x y : Operand) (a b : Ad × Ad) (w : World) : (neRg x y (.agg (eRg.enc a).toArray) (.agg (eRg.enc b).toArray)).run Tryz.prog w = .ok (.value (.bool (!rgQQ a b))) w := run_neRg x y a b w

set_option maxHeartbeats 2000000 in
set_option maxRecDepth 100000 in
theorem equalPf_any (A A' : Option Addr) (n m cap cap' : Nat) (xs ys : List Pf) (w : World) (hS : SlE ePf w A n cap xs) (hS' : SlE ePf w A' m cap' ys) (hn : n ≤ 1000000) (hm : m ≤ 1000000) :
    Calls Tryz.prog 31 #[.slice A n cap, .slice A' m cap'] w fun e w' => ∃ b, e = .returned (.bool b) ∧ (b = true ↔ xs = ys) ∧ Below w.heap.size w w' := by
  have hl := Lib.hid hS.1
  have hl' := Lib.hid hS'.1
  have hS := Lib.hid hS
  have hS' := Lib.hid hS'
  by_cases hnm : n = m
  · subst hnm
    go_enter Tryz.func31, Tryz.ntmps31
    go_wp2_with fail
    go_loopw [13] (fun i wr => ∃ k : Nat, k ≤ n ∧ i = .int .i64 k ∧ Hid (xs.take k = ys.take k) ∧ Below w.heap.size w wr) (fun i _ => n - (intOf i).toNat)
    case atStart => exact ⟨0, by omega, rfl, Lib.hid rfl, Below.refl _ _⟩
    case round =>
      obtain ⟨k, hk, rfl, htk, hbw⟩ := hrel
      by_cases hlt : k < n
      · obtain ⟨x, hx⟩ : ∃ x, xs[k]? = some x := ⟨xs[k]'(by have := hl.out; omega), List.getElem?_eq_getElem _⟩
        obtain ⟨y, hy⟩ : ∃ y, ys[k]? = some y := ⟨ys[k]'(by have := hl'.out; omega), List.getElem?_eq_getElem _⟩
        obtain ⟨g0, off, rfl, _, _⟩ := hS.out.at' hlt
        obtain ⟨g1, off', rfl, _, _⟩ := hS'.out.at' hlt
        have hlt' : (k : Int) < n := by omega
        have HQ := Lib.hid (pfQQ_iff x y)
        have hx := Lib.hid hx
        have hy := Lib.hid hy
        go_wp2_with fail
        refine wx_begin (none) [] (by kernel_rfl) (fun u0 hb0' hz0' => ?_)
        replace hbw := hbw.trans (hb0'.mono hbw.size)
        clear hb0' hz0'
        refine wx_pure (i := 0) (d := some 16) (v := ?_) (by simp only [List.getElem?_toArray, List.getElem?_cons_succ, List.getElem?_cons_zero] <;> rfl) (by rfl) (by kernel_rfl) (by kernel_rfl) (by kernel_rfl) (fun _ _ _ h => h) (by rfl) ?_ ?_
        rotate_left
        · ((intro u); go_simp; try with_reducible rfl)
        try simp only [Act.put, List.setIfInBounds_toArray, List.set_cons_zero, List.set_cons_succ]
        refine wx_pure (i := 1) (d := some 17) (v := ?_) (by simp only [List.getElem?_toArray, List.getElem?_cons_succ, List.getElem?_cons_zero] <;> rfl) (by rfl) (by kernel_rfl) (by kernel_rfl) (by kernel_rfl) (fun _ _ _ h => h) (by rfl) ?_ ?_
        rotate_left
        · ((intro u); go_simp; try with_reducible rfl)
        try simp only [Act.put, List.setIfInBounds_toArray, List.set_cons_zero, List.set_cons_succ]
        refine wx_pure (i := 2) (d := some 18) (v := ?_) (by simp only [List.getElem?_toArray, List.getElem?_cons_succ, List.getElem?_cons_zero] <;> rfl) (by rfl) (by kernel_rfl) (by kernel_rfl) (by kernel_rfl) (fun _ _ _ h => h) (by rfl) ?_ ?_
        rotate_left
        · ((intro u); go_simp; try with_reducible rfl)
        try simp only [Act.put, List.setIfInBounds_toArray, List.set_cons_zero, List.set_cons_succ]
        refine wx_take (i := 3) (d := some 19) (v := ?_) (by simp only [List.getElem?_toArray, List.getElem?_cons_succ, List.getElem?_cons_zero] <;> rfl) (by rfl) (by kernel_rfl) (by kernel_rfl) (by kernel_rfl) (fun _ _ _ h => h) (by rfl) (by kernel_rfl) ?_ ?_
        rotate_left
        · ((intro u hu); have k1 := SlE.ld rowPf ((hS.out.below hbw).keepG hu) hx.out; have k2 := SlE.ld rowPf ((hS'.out.below hbw).keepG hu) hy.out; replace k1 : (ldT 52 (.pointer (some ⟨g0, off + k * 4, none⟩))).run Tryz.prog u = .ok (.value (.agg (ePf.enc x).toArray)) u := k1; replace k2 : (ldT 52 (.pointer (some ⟨g1, off' + k * 4, none⟩))).run Tryz.prog u = .ok (.value (.agg (ePf.enc y).toArray)) u := k2; go_simp; try with_reducible rfl)
        try simp only [Act.put, List.setIfInBounds_toArray, List.set_cons_zero, List.set_cons_succ]
        refine wx_pure (i := 4) (d := some 20) (v := ?_) (by simp only [List.getElem?_toArray, List.getElem?_cons_succ, List.getElem?_cons_zero] <;> rfl) (by rfl) (by kernel_rfl) (by kernel_rfl) (by kernel_rfl) (fun _ _ _ h => h) (by rfl) ?_ ?_
        rotate_left
        · ((intro u); go_simp; try with_reducible rfl)
        try simp only [Act.put, List.setIfInBounds_toArray, List.set_cons_zero, List.set_cons_succ]
        refine wx_pure (i := 5) (d := some 21) (v := ?_) (by simp only [List.getElem?_toArray, List.getElem?_cons_succ, List.getElem?_cons_zero] <;> rfl) (by rfl) (by kernel_rfl) (by kernel_rfl) (by kernel_rfl) (fun _ _ _ h => h) (by rfl) ?_ ?_
        rotate_left
        · ((intro u); go_simp; try with_reducible rfl)
        try simp only [Act.put, List.setIfInBounds_toArray, List.set_cons_zero, List.set_cons_succ]
        refine wx_pure (i := 6) (d := some 22) (v := ?_) (by simp only [List.getElem?_toArray, List.getElem?_cons_succ, List.getElem?_cons_zero] <;> rfl) (by rfl) (by kernel_rfl) (by kernel_rfl) (by kernel_rfl) (fun _ _ _ h => h) (by rfl) ?_ ?_
        rotate_left
        · ((intro u); go_simp; try with_reducible rfl)
        try simp only [Act.put, List.setIfInBounds_toArray, List.set_cons_zero, List.set_cons_succ]
        refine wx_take (i := 7) (d := some 23) (v := ?_) (by simp only [List.getElem?_toArray, List.getElem?_cons_succ, List.getElem?_cons_zero] <;> rfl) (by rfl) (by kernel_rfl) (by kernel_rfl) (by kernel_rfl) (fun _ _ _ h => h) (by rfl) (by kernel_rfl) ?_ ?_
        rotate_left
        · ((intro u hu); have k1 := SlE.ld rowPf ((hS.out.below hbw).keepG hu) hx.out; have k2 := SlE.ld rowPf ((hS'.out.below hbw).keepG hu) hy.out; replace k1 : (ldT 52 (.pointer (some ⟨g0, off + k * 4, none⟩))).run Tryz.prog u = .ok (.value (.agg (ePf.enc x).toArray)) u := k1; replace k2 : (ldT 52 (.pointer (some ⟨g1, off' + k * 4, none⟩))).run Tryz.prog u = .ok (.value (.agg (ePf.enc y).toArray)) u := k2; go_simp; try with_reducible rfl)
        try simp only [Act.put, List.setIfInBounds_toArray, List.set_cons_zero, List.set_cons_succ]
        refine wx_pure (i := 8) (d := some 24) (v := ?_) (by simp only [List.getElem?_toArray, List.getElem?_cons_succ, List.getElem?_cons_zero] <;> rfl) (by rfl) (by kernel_rfl) (by kernel_rfl) (by kernel_rfl) (fun _ _ _ h => h) (by rfl) ?_ ?_
        rotate_left
        · ((intro u); go_simp; try with_reducible rfl)
        try simp only [Act.put, List.setIfInBounds_toArray, List.set_cons_zero, List.set_cons_succ]
        refine wx_done (by kernel_rfl) ?_ _
        skip
        generalize pfQQ x y = q at *
        cases q
        · have hne := Lib.hid (show ¬ xs = ys from fun e => by
            have h1 := hx.out
            rw [e, hy.out] at h1
            injection h1 with h1
            have := HQ.out.2 h1.symm
            cases this)
          go_wp2_with fail
          go_ret
          exact ⟨false, rfl, ⟨fun h => by (first | exact h.elim | cases h), fun h => absurd h hne.out⟩, hbw⟩
        · have hxy := HQ.out.1 rfl
          have htk2 := Lib.hid (show xs.take (k + 1) = ys.take (k + 1) by rw [List.take_add_one, List.take_add_one, htk.out, hx.out, hy.out, hxy])
          clear hxy HQ
          go_wp2_with fail
          go_roundw
          case rel => exact ⟨k + 1, by omega, by go_num, htk2, hbw⟩
          case measure => simp [intOf]; omega
      · have he := Lib.hid (show xs = ys by
          have h1 := htk.out
          rwa [List.take_of_length_le (by have := hl.out; omega), List.take_of_length_le (by have := hl'.out; omega)] at h1)
        go_wp2_with fail
        go_ret
        exact ⟨true, rfl, ⟨fun _ => he.out, fun _ => rfl⟩, hbw⟩
  · have h0 : ((n : Int) == (m : Int)) = false := by rw [beq_eq_false_iff_ne]; omega
    have hne := Lib.hid (show ¬ xs = ys from fun e => by have h1 := hl.out; have h2 := hl'.out; rw [e] at h1; omega)
    clear hnm
    go_enter Tryz.func31, Tryz.ntmps31
    go_wp2_with fail
    go_ret
    exact ⟨false, rfl, ⟨fun h => by (first | exact h.elim | cases h), fun h => absurd h hne.out⟩, Below.refl _ _⟩

end Go.Proofs.YthjhokicojgpbaaGreatDoor
