/- Equal lists of ranges; ranges that a stream makes. -/
import Derived.Test.YtigbbpgfblnboaaPlG
import Derived.Test.YtigbbpgfblnboaaPkFl
namespace Go.Proofs.Ytigbbpgfblnboaa
open Go.RowKit
set_option linter.unusedVariables false
set_option linter.unusedSimpArgs false

set_option maxHeartbeats 1000000 in
theorem pt_same (x y : Int) (w : World) : (Op.equalIn 10000 29 (.agg #[.int .i64 x, .int .i64 y]) (.agg #[.int .i64 x, .int .i64 y])).run Try.prog w = .ok true w := by
  rw [show (10000 : Nat) = 9999 + 1 from rfl, run_equalIn_agg w 9999 29 _ _ (by kernel_rfl) (by kernel_rfl)]
  simp only [Program.fieldsOf, Try.underlying29]
  go_simp
/-- A test of two values, as one step. -/
def nePt (x y : Operand) (a b : Value) : Sem Next := do
  let v ← (do eqGuard .neq 29 x y a b; binOp .neq 29 a b)
  pure (.value v)
@[go_sem ↓ high] theorem execOp_nePt' (ρ : Operand → Value) (dst : Option Tmp) (x y : Operand) (r ty : TypeId) (pos : String) (after : Array Edge) (guard : Option (Nat × Bool)) :
    execOp ρ ⟨dst, .binOp .neq 29 x y r, ty, pos, after, guard⟩ = nePt x y (ρ x) (ρ y) := rfl
@[go_sem high] theorem execOp_nePt (ρ : Operand → Value) (dst : Option Tmp) (x y : Operand) (r ty : TypeId) (pos : String) (after : Array Edge) (guard : Option (Nat × Bool)) :
    execOp ρ ⟨dst, .binOp .neq 29 x y r, ty, pos, after, guard⟩ = nePt x y (ρ x) (ρ y) := rfl
@[go_sem] theorem run_nePt (x y : Operand) (a b : Int) (w : World) : (nePt x y (.agg #[.int .i64 a, .int .i64 b]) (.agg #[.int .i64 a, .int .i64 b])).run Try.prog w = .ok (.value (.bool false)) w := by
  unfold nePt
  simp only [Sem.run_bind, run_neq_struct, pt_same, run_eqGuard_agg _ _ _ _ _ _ _ Try.eqGuardType29, Result.andThen_ok, Sem.run_pure]
  rfl

theorem slP_at {w : World} {A : Option Addr} {n cap : Nat} {ps : List Pt} (h : SlP w A n cap ps) {k : Nat} (hk : k < n) : ∃ b off, A = some ⟨b, off, none⟩ ∧ b < w.heap.size ∧ ∀ j p, ps[j]? = some p → w.cell? ⟨b, off + j * 2, none⟩ = some (.int .i64 p.1) ∧ w.cell? ⟨b, off + j * 2 + 1, none⟩ = some (.int .i64 p.2) := by
  rcases h.2.2 with h | h
  · omega
  · exact h

set_option maxHeartbeats 2000000 in
set_option maxRecDepth 100000 in
theorem equal_same (A A' : Option Addr) (n cap cap' : Nat) (ps : List Pt) (w : World) (hS : SlP w A n cap ps) (hS' : SlP w A' n cap' ps) (hn : n ≤ 1000) :
    Calls Try.prog 12 #[.slice A n cap, .slice A' n cap'] w (GivesV (.bool true) w) := by
  have h2 := hS.2.1
  have h2' := hS'.2.1
  have hS := Lib.hid hS
  have hS' := Lib.hid hS'
  go_enter Try.func12, Try.ntmps12
  go_wp2_with fail
  go_loopw [13] (fun i wr => ∃ k : Nat, k ≤ n ∧ i = .int .i64 k ∧ Below w.heap.size w wr) (fun i _ => n - (intOf i).toNat)
  case atStart => exact ⟨0, by omega, rfl, Below.refl _ _⟩
  case round =>
    obtain ⟨k, hk, rfl, hbw⟩ := hrel
    by_cases hlt : k < n
    · obtain ⟨p, hp⟩ : ∃ p, ps[k]? = some p := ⟨ps[k]'(by have := hS.out.1; omega), List.getElem?_eq_getElem _⟩
      obtain ⟨b, off, rfl, hb, hc⟩ := slP_at hS.out hlt
      obtain ⟨d, poff, rfl, hd, hc'⟩ := slP_at hS'.out hlt
      obtain ⟨x, y⟩ := p
      obtain ⟨q0, q1⟩ := hc k (x, y) hp
      obtain ⟨q2, q3⟩ := hc' k (x, y) hp
      replace q0 := Lib.hid q0
      replace q1 := Lib.hid q1
      replace q2 := Lib.hid q2
      replace q3 := Lib.hid q3
      have hlt' : (k : Int) < n := by omega
      clear hp hc hc' hS hS'
      go_wp2_with fail
      refine wx_begin (none) [] (by kernel_rfl) (fun u0 hb0' hz0' => ?_)
      replace hbw := hbw.trans (hb0'.mono hbw.size)
      clear hb0' hz0'
      refine wx_pure (i := 0) (d := some 16) (v := ?_) (by simp only [List.getElem?_toArray, List.getElem?_cons_succ, List.getElem?_cons_zero] <;> rfl) (by rfl) (by kernel_rfl) (by kernel_rfl) (by kernel_rfl) (fun _ _ _ h => h) (by rfl) ?_ ?_
      rotate_left
      · ((intro u); go_simp; try with_reducible rfl)
      try simp only [Act.put, List.setIfInBounds_toArray, List.set_cons_zero, List.set_cons_succ]
      refine wx_pure (i := 1) (d := some 17) (v := ?_) (by simp only [List.getElem?_toArray, List.getElem?_cons_succ, List.getElem?_cons_zero] <;> rfl) (by rfl) (by kernel_rfl) (by kernel_rfl) (by kernel_rfl) (fun _ _ _ h => h) (by rfl) ?_ ?_
      rotate_left
      · ((intro u); go_simp; try with_reducible rfl)
      try simp only [Act.put, List.setIfInBounds_toArray, List.set_cons_zero, List.set_cons_succ]
      refine wx_pure (i := 2) (d := some 18) (v := ?_) (by simp only [List.getElem?_toArray, List.getElem?_cons_succ, List.getElem?_cons_zero] <;> rfl) (by rfl) (by kernel_rfl) (by kernel_rfl) (by kernel_rfl) (fun _ _ _ h => h) (by rfl) ?_ ?_
      rotate_left
      · ((intro u); go_simp; try with_reducible rfl)
      try simp only [Act.put, List.setIfInBounds_toArray, List.set_cons_zero, List.set_cons_succ]
      refine wx_take (i := 3) (d := some 19) (v := ?_) (by simp only [List.getElem?_toArray, List.getElem?_cons_succ, List.getElem?_cons_zero] <;> rfl) (by rfl) (by kernel_rfl) (by kernel_rfl) (by kernel_rfl) (fun _ _ _ h => h) (by rfl) (by kernel_rfl) ?_ ?_
      rotate_left
      · ((intro u hu); have hbu := hbw.trans ((gb2B hu).mono hbw.size); have c0 := (hbu.cell (p := ⟨b, off + k * 2, none⟩) (by exact hb)).trans q0.out; have c1 := (hbu.cell (p := ⟨b, off + k * 2 + 1, none⟩) (by exact hb)).trans q1.out; have c2 := (hbu.cell (p := ⟨d, poff + k * 2, none⟩) (by exact hd)).trans q2.out; have c3 := (hbu.cell (p := ⟨d, poff + k * 2 + 1, none⟩) (by exact hd)).trans q3.out; clear hbu; go_simp; try with_reducible rfl)
      try simp only [Act.put, List.setIfInBounds_toArray, List.set_cons_zero, List.set_cons_succ]
      refine wx_pure (i := 4) (d := some 20) (v := ?_) (by simp only [List.getElem?_toArray, List.getElem?_cons_succ, List.getElem?_cons_zero] <;> rfl) (by rfl) (by kernel_rfl) (by kernel_rfl) (by kernel_rfl) (fun _ _ _ h => h) (by rfl) ?_ ?_
      rotate_left
      · ((intro u); go_simp; try with_reducible rfl)
      try simp only [Act.put, List.setIfInBounds_toArray, List.set_cons_zero, List.set_cons_succ]
      refine wx_pure (i := 5) (d := some 21) (v := ?_) (by simp only [List.getElem?_toArray, List.getElem?_cons_succ, List.getElem?_cons_zero] <;> rfl) (by rfl) (by kernel_rfl) (by kernel_rfl) (by kernel_rfl) (fun _ _ _ h => h) (by rfl) ?_ ?_
      rotate_left
      · ((intro u); go_simp; try with_reducible rfl)
      try simp only [Act.put, List.setIfInBounds_toArray, List.set_cons_zero, List.set_cons_succ]
      refine wx_pure (i := 6) (d := some 22) (v := ?_) (by simp only [List.getElem?_toArray, List.getElem?_cons_succ, List.getElem?_cons_zero] <;> rfl) (by rfl) (by kernel_rfl) (by kernel_rfl) (by kernel_rfl) (fun _ _ _ h => h) (by rfl) ?_ ?_
      rotate_left
      · ((intro u); go_simp; try with_reducible rfl)
      try simp only [Act.put, List.setIfInBounds_toArray, List.set_cons_zero, List.set_cons_succ]
      refine wx_take (i := 7) (d := some 23) (v := ?_) (by simp only [List.getElem?_toArray, List.getElem?_cons_succ, List.getElem?_cons_zero] <;> rfl) (by rfl) (by kernel_rfl) (by kernel_rfl) (by kernel_rfl) (fun _ _ _ h => h) (by rfl) (by kernel_rfl) ?_ ?_
      rotate_left
      · ((intro u hu); have hbu := hbw.trans ((gb2B hu).mono hbw.size); have c0 := (hbu.cell (p := ⟨b, off + k * 2, none⟩) (by exact hb)).trans q0.out; have c1 := (hbu.cell (p := ⟨b, off + k * 2 + 1, none⟩) (by exact hb)).trans q1.out; have c2 := (hbu.cell (p := ⟨d, poff + k * 2, none⟩) (by exact hd)).trans q2.out; have c3 := (hbu.cell (p := ⟨d, poff + k * 2 + 1, none⟩) (by exact hd)).trans q3.out; clear hbu; go_simp; try with_reducible rfl)
      try simp only [Act.put, List.setIfInBounds_toArray, List.set_cons_zero, List.set_cons_succ]
      refine wx_pure (i := 8) (d := some 24) (v := ?_) (by simp only [List.getElem?_toArray, List.getElem?_cons_succ, List.getElem?_cons_zero] <;> rfl) (by rfl) (by kernel_rfl) (by kernel_rfl) (by kernel_rfl) (fun _ _ _ h => h) (by rfl) ?_ ?_
      rotate_left
      · ((intro u); go_simp; try with_reducible rfl)
      try simp only [Act.put, List.setIfInBounds_toArray, List.set_cons_zero, List.set_cons_succ]
      refine wx_done (by kernel_rfl) ?_ _
      skip
      go_wp2_with fail
      go_roundw
      case rel => exact ⟨k + 1, by omega, by go_num, hbw⟩
      case measure => simp [intOf]; omega
    · clear hS hS'
      go_wp2_with fail
      go_ret
      exact ⟨rfl, hbw⟩

theorem Blk.twoF {w : World} {p : Nat} {a b : Value} {t : TypeId} (h : Blk w p [a, b] t) : w.cell? ⟨p, 0, none⟩ = some a ∧ w.cell? ⟨p, 1, none⟩ = some b ∧ w.frozen? ⟨p, 0, none⟩ = false ∧ w.frozen? ⟨p, 1, none⟩ = false :=
  ⟨h.cell (i := 0) (v := a) rfl, h.cell (i := 1) (v := b) rfl, h.free _, h.free _⟩
theorem fin2 {w0 w : World} {b R q : Nat} (hb : b < q) (h0 : w0.heap.size ≤ q) (h : Str w b R ∧ w0.grownBy w (some b)) (x0 x1 : Value) :
    Str ((w.setCell ⟨q, 0, none⟩ x0).setCell ⟨q, 1, none⟩ x1) b R ∧ w0.grownBy ((w.setCell ⟨q, 0, none⟩ x0).setCell ⟨q, 1, none⟩ x1) (some b) :=
  fin1 hb h0 (fin1 hb h0 h 0 x0) 1 x1

/-- A step of the stream b: a range. -/
def PtPost (b R : Nat) (w : World) (e : Ending) (w' : World) : Prop :=
  ∃ x y : Int, e = .returned (.agg #[.int .i64 x, .int .i64 y]) ∧ Str w' b R ∧ w.grownBy w' (some b)

set_option maxHeartbeats 4000000 in
set_option maxRecDepth 100000 in
theorem portRange_any (w : World) (b R : Nat) (hs : Str w b (R + 3)) :
    Calls Try.prog 7 #[.pointer (some ⟨b, 0, none⟩)] w (PtPost b R w) := by
  have hR := PreR.start hs [.int .i64 0, .int .i64 0] 29
  clear hs
  go_enter Try.func7, Try.ntmps7
  go_wp2_with fail
  refine (next_any 5 _ b (R + 2) (by omega) (by omega) hR.str).mono ?_
  rintro e w1 ⟨r, ⟨hr1, hr2⟩, rfl, hs1, hg1⟩
  replace hR := hR.step hs1 hg1
  clear hs1 hg1
  generalize w.heap.size = q at hR ⊢
  obtain rfl | rfl | rfl | rfl | rfl : r = 0 ∨ r = 1 ∨ r = 2 ∨ r = 3 ∨ r = 4 := by omega
  · clear hr1 hr2
    obtain ⟨u0, u1, g0, g1⟩ := hR.res.twoF
    go_wp2_with fail
    refine bodyPost_ret (v := .agg #[.int .i64 0, .int .i64 65535]) ?_ rfl ⟨_, _, rfl, fin2 hR.lt.1 hR.lt.2 ⟨hR.str.le (by omega), hR.base⟩ _ _⟩
    simp [results, Try.results7, go_sem, u0, u1]
  · clear hr1 hr2
    obtain ⟨u0, u1, g0, g1⟩ := hR.res.twoF
    go_wp2_with fail
    refine bodyPost_ret (v := .agg #[.int .i64 0, .int .i64 65535]) ?_ rfl ⟨_, _, rfl, fin2 hR.lt.1 hR.lt.2 ⟨hR.str.le (by omega), hR.base⟩ _ _⟩
    simp [results, Try.results7, go_sem, u0, u1]
  · clear hr1 hr2
    go_wp2_with fail
    refine (pick_lit_at _ b (R + 1) _ _ [80, 90, 443] _ _ (by simp) (by simp) hR.str (by simp) (by simp) (fun _ => True) (by simp)).mono ?_
    rintro e w2 ⟨v, _, rfl, hs1, hg1⟩
    replace hR := (hR.alloc _).step hs1 hg1
    clear hs1 hg1
    obtain ⟨u0, u1, g0, g1⟩ := hR.res.twoF
    go_wp2_with fail
    refine bodyPost_ret (v := .agg #[.int .i64 80, .int .i64 v]) ?_ rfl ⟨_, _, rfl, fin2 hR.lt.1 hR.lt.2 ⟨hR.str.le (by omega), hR.base⟩ _ _⟩
    simp [results, Try.results7, go_sem, u0, u1]
  · clear hr1 hr2
    go_wp2_with fail
    refine (pick_lit_at _ b (R + 1) _ _ [22, 443, 65535, 0] _ _ (by simp) (by simp) hR.str (by simp) (by simp) (fun _ => True) (by simp)).mono ?_
    rintro e w2 ⟨v, _, rfl, hs1, hg1⟩
    replace hR := (hR.alloc _).step hs1 hg1
    clear hs1 hg1
    obtain ⟨u0, u1, g0, g1⟩ := hR.res.twoF
    go_wp2_with fail
    refine bodyPost_ret (v := .agg #[.int .i64 v, .int .i64 v]) ?_ rfl ⟨_, _, rfl, fin2 hR.lt.1 hR.lt.2 ⟨hR.str.le (by omega), hR.base⟩ _ _⟩
    simp [results, Try.results7, go_sem, u0, u1]
  · clear hr1 hr2
    go_wp2_with fail
    refine (pick_lit_at _ b (R + 1) _ _ [0, 81, 100] _ _ (by simp) (by simp) hR.str (by simp) (by simp) (fun z => 0 ≤ z ∧ z ≤ 100) (by simp)).mono ?_
    rintro e w2 ⟨v, ⟨hv1, hv2⟩, rfl, hs1, hg1⟩
    replace hR := (hR.alloc _).step hs1 hg1
    clear hs1 hg1
    go_wp2_with fail
    refine (range_any _ _ _ _ R (by omega) (by omega) (by omega) hR.str).mono ?_
    rintro e w3 ⟨u, _, rfl, hs1, hg1⟩
    replace hR := hR.step hs1 hg1
    clear hs1 hg1
    obtain ⟨u0, u1, g0, g1⟩ := hR.res.twoF
    go_wp2_with fail
    refine bodyPost_ret (v := .agg #[.int .i64 v, .int .i64 u]) ?_ rfl ⟨_, _, rfl, fin2 hR.lt.1 hR.lt.2 ⟨hR.str.le (by omega), hR.base⟩ _ _⟩
    simp [results, Try.results7, go_sem, u0, u1]
end Go.Proofs.Ytigbbpgfblnboaa
