/- Sets: how many blocks there are at most. -/
import Derived.Test.YtmgdkefoehlamaaGreatDoorKnGzA
import Derived.Test.YtmgdkefoehlamaaGreatDoorKnStT
import Derived.Test.YtmgdkefoehlamaaGreatDoorKnLaneD
namespace Go.Proofs.YtmgdkefoehlamaaGreatDoor
open Go.RowKit
set_option linter.unusedVariables false
set_option linter.unusedSimpArgs false

theorem sl_of_blk {α : Type} {E : Enc α} {w : World} {g : Nat} {x : α} {t : TypeId} (h : Blk w g (E.enc x) t) : SlE E w (some ⟨g, 0, none⟩) 1 1 [x] := by
  refine ⟨rfl, Nat.le_refl _, (fun e => by cases e), .inr ⟨g, 0, rfl, h.lt, fun j y hy i v hv => ?_⟩⟩
  cases j with
  | zero =>
    simp at hy; subst hy
    have := h.cell hv
    simpa using this
  | succ j => simp at hy
theorem pfsOf_len {l : List (Nat × Nat)} {n : Nat} (h : ∀ x ∈ l, Row x) (hl : l.length ≤ n) : (pfsOf l).length ≤ n * 258 := by
  have h1 := cuts_len l h
  have h2 := Nat.mul_le_mul_right 258 hl
  unfold pfsOf
  rw [List.length_map]; exact Nat.le_trans h1 h2

set_option maxHeartbeats 2000000 in
set_option maxRecDepth 100000 in
theorem leastOf_any (A : Option Addr) (n cap : Nat) (ps : List Pf) (w : World) (hS : SlE ePf w A n cap ps) (hn : n ≤ 1000) (hR : ∀ p ∈ ps, p.R) :
    Calls Tryz.prog 24 #[.slice A n cap] w fun e w' => ∃ ys, Joined ys (ps.map rgP) ∧ ys.length ≤ n ∧ GivesO ePf 40 w.heap.size (pfsOf (ys.map rowA)) e w' ∧ Below w.heap.size w w' := by
  have HS := Lib.hid (ofS_any A n cap ps w hS (by omega) hR)
  clear hS hR
  go_enter Tryz.func24, Tryz.ntmps24
  go_wp2_with fail
  refine HS.out.mono ?_
  rintro e w1 ⟨ys, hy1, hy2, ⟨A2, cap2, rfl, hSl, hA⟩, hb1⟩
  have HP := Lib.hid (prefixesR_any A2 ys.length cap2 ys w1 hSl (by omega) hy1.2.2)
  replace hy1 := Lib.hid hy1
  clear HS hSl hA
  obtain ⟨L, hL⟩ : ∃ m, m = ys.length := ⟨_, rfl⟩
  rw [← hL] at HP hy2 ⊢
  replace hL := Lib.hid hL
  go_wp2_with fail
  refine HP.out.mono ?_
  rintro e w2 ⟨⟨v4, rfl, ho4⟩, hb2⟩
  clear HP
  go_wp2_with fail
  go_ret
  exact ⟨ys, hy1.out, by rw [← hL.out]; exact hy2, ⟨v4, rfl, ho4.mono hb1.size⟩, hb1.trans (hb2.mono hb1.size)⟩

end Go.Proofs.YtmgdkefoehlamaaGreatDoor
namespace Go.Proofs.YtmgdkefoehlamaaGreatDoor
open Go.RowKit
set_option linter.unusedVariables false
set_option linter.unusedSimpArgs false

theorem SlE.keepG {α : Type} {E : Enc α} {w u : World} {A : Option Addr} {n cap : Nat} {xs : List α} (h : SlE E w A n cap xs) (hu : w.grownBy u none) : SlE E u A n cap xs := h.below (gb2B hu)
def pfQQ (p q : Pf) : Bool := pfQ p.1.s q.1.s p.1.hi p.1.lo q.1.hi q.1.lo p.2 q.2
@[go_sem] theorem run_nePfA (x y : Operand) (p q : Pf) (w : World) : (nePf x y (.agg (pfC p).toArray) (.agg (pfC q).toArray)).run Tryz.prog w = .ok (.value (.bool (!pfQQ p q))) w :=
  run_nePf x y p.1.s q.1.s p.1.hi p.1.lo q.1.hi q.1.lo p.2 q.2 w
@[go_sem] theorem run_nePfE (x y : Operand) (p q : Pf) (w : World) : (nePf x y (.agg (ePf.enc p).toArray) (.agg (ePf.enc q).toArray)).run Tryz.prog w = .ok (.value (.bool (!pfQQ p q))) w := run_nePfA x y p q w
theorem pfQQ_iff (p q : Pf) : pfQQ p q = true ↔ p = q := by
  obtain ⟨⟨s, hi, lo⟩, n⟩ := p
  obtain ⟨⟨t, hh, l⟩, m⟩ := q
  unfold pfQQ pfQ
  simp only [Bool.and_eq_true, beq_iff_eq]
  constructor
  · rintro h
    obtain ⟨h1, h2, h3, h4⟩ : s = t ∧ hi = hh ∧ lo = l ∧ n = m := by simpa [and_assoc] using h
    subst h1; subst h2; subst h3; subst h4; rfl
  · intro h
    injection h with h1 h2
    injection h1 with h3 h4 h5
    subst h2; subst h3; subst h4; subst h5
    simp
def rgQQ (x y : Ad × Ad) : Bool := adE x.1 y.1 && adE x.2 y.2
theorem adE_eq (a b : Ad) : adE a b = true ↔ a = b := by
  obtain ⟨s, hi, lo⟩ := a
  obtain ⟨t, hh, l⟩ := b
  unfold adE adQ
  simp only [Bool.and_eq_true, beq_iff_eq]
  constructor
  · rintro h
    obtain ⟨h1, h2, h3⟩ : s = t ∧ hi = hh ∧ lo = l := by simpa [and_assoc] using h
    subst h1; subst h2; subst h3; rfl
  · intro h
    injection h with h3 h4 h5
    subst h3; subst h4; subst h5
    simp
set_option maxHeartbeats 1000000 in
theorem rg_equalIn (x y : Ad × Ad) (w : World) : (Op.equalIn 10000 53 (.agg (rgC x).toArray) (.agg (rgC y).toArray)).run Tryz.prog w = .ok (rgQQ x y) w := by
  unfold rgC
  rw [show (10000 : Nat) = 9999 + 1 from rfl, run_equalIn_agg w 9999 53 _ _ (by kernel_rfl) (by kernel_rfl)]
  simp only [Program.fieldsOf, Tryz.underlying53]
  go_simp
  unfold rgQQ adE adQ
  (repeat' split) <;> simp_all
def neRg (x y : Operand) (a b : Value) : Sem Next := do
  let v ← (do eqGuard .neq 53 x y a b; binOp .neq 53 a b)
  pure (.value v)
@[go_sem ↓ high] theorem execOp_neRg' (ρ : Operand → Value) (dst : Option Tmp) (x y : Operand) (r ty : TypeId) (pos : String) (after : Array Edge) (guard : Option (Nat × Bool)) :
    execOp ρ ⟨dst, .binOp .neq 53 x y r, ty, pos, after, guard⟩ = neRg x y (ρ x) (ρ y) := rfl
@[go_sem high] theorem execOp_neRg (ρ : Operand → Value) (dst : Option Tmp) (x y : Operand) (r ty : TypeId) (pos : String) (after : Array Edge) (guard : Option (Nat × Bool)) :
    execOp ρ ⟨dst, .binOp .neq 53 x y r, ty, pos, after, guard⟩ = neRg x y (ρ x) (ρ y) := rfl
@[go_sem] theorem run_neRg (x y : Operand) (a b : Ad × Ad) (w : World) : (neRg x y (.agg (rgC a).toArray) (.agg (rgC b).toArray)).run Tryz.prog w = .ok (.value (.bool (!rgQQ a b))) w := by
  unfold neRg
  simp only [Sem.run_bind, run_neq_struct, rg_equalIn, run_eqGuard_agg _ _ _ _ _ _ _ Tryz.eqGuardType53, Result.andThen_ok, Sem.run_pure]
@[go_sem] theorem run_neRgE (x y : Operand) (a b : Ad × Ad) (w : World) : (neRg x y (.agg (eRg.enc a).toArray) (.agg (eRg.enc b).toArray)).run Tryz.prog w = .ok (.value (.bool (!rgQQ a b))) w := run_neRg x y a b w

set_option maxHeartbeats 2000000 in
set_option maxRecDepth 100000 in
theorem equalPf_any (A A' : Option Addr) (n m cap cap' : Nat) (xs ys : List Pf) (w : World) (hS : SlE ePf w A n cap xs) (hS' : SlE ePf w A' m cap' ys) (hn : n ≤ 1000000) (hm : m ≤ 1000000) :
    Calls Tryz.prog 14 #[.slice A n cap, .slice A' m cap'] w fun e w' => ∃ b, e = .returned (.bool b) ∧ (b = true ↔ xs = ys) ∧ Below w.heap.size w w' := by
  have hl := Lib.hid hS.1
  have hl' := Lib.hid hS'.1
  have hS := Lib.hid hS
  have hS' := Lib.hid hS'
  by_cases hnm : n = m
  · subst hnm
    go_enter Tryz.func14, Tryz.ntmps14
    go_wp2_with fail
    go_loopw [13] (fun i wr => ∃ k : Nat, k ≤ n ∧ i = .int .i64 k ∧ Hid (xs.take k = ys.take k) ∧ Below w.heap.size w wr) (fun i _ => n - (intOf i).toNat)
    case atStart => exact ⟨0, by omega, rfl, Lib.hid rfl, Below.refl _ _⟩
    case round =>
      obtain ⟨k, hk, rfl, htk, hbw⟩ := hrel
      by_cases hlt : k < n
      · obtain ⟨x, hx⟩ : ∃ x, xs[k]? = some x := ⟨xs[k]'(by have := hl.out; omega), List.getElem?_eq_getElem _⟩
        obtain ⟨y, hy⟩ : ∃ y, ys[k]? = some y := ⟨ys[k]'(by have := hl'.out; omega), List.getElem?_eq_getElem _⟩
        obtain ⟨g0, off, rfl, _, _⟩ := hS.out.at' hlt
        obtain ⟨g1, off', rfl, _, _⟩ := hS'.out.at' hlt
        have hlt' : (k : Int) < n := by omega
        have HQ := Lib.hid (pfQQ_iff x y)
        have hx := Lib.hid hx
        have hy := Lib.hid hy
        go_wp2_with fail
        refine wx_begin (none) [] (by kernel_rfl) (fun u0 hb0' hz0' => ?_)
        replace hbw := hbw.trans (hb0'.mono hbw.size)
        clear hb0' hz0'
        refine wx_pure (i := 0) (d := some 16) (v := ?_) (by simp only [gzA, gzB, gzC] <;> rfl) (by rfl) (by kernel_rfl) (by kernel_rfl) (by kernel_rfl) (fun _ _ _ h => h) (by rfl) ?_ ?_
        rotate_left
        · ((intro u); go_simp; try with_reducible rfl)
        try simp only [Act.put, gzD, gzE, gzF]
        refine wx_pure (i := 1) (d := some 17) (v := ?_) (by simp only [gzA, gzB, gzC] <;> rfl) (by rfl) (by kernel_rfl) (by kernel_rfl) (by kernel_rfl) (fun _ _ _ h => h) (by rfl) ?_ ?_
        rotate_left
        · ((intro u); go_simp; try with_reducible rfl)
        try simp only [Act.put, gzD, gzE, gzF]
        refine wx_pure (i := 2) (d := some 18) (v := ?_) (by simp only [gzA, gzB, gzC] <;> rfl) (by rfl) (by kernel_rfl) (by kernel_rfl) (by kernel_rfl) (fun _ _ _ h => h) (by rfl) ?_ ?_
        rotate_left
        · ((intro u); go_simp; try with_reducible rfl)
        try simp only [Act.put, gzD, gzE, gzF]
        refine wx_take (i := 3) (d := some 19) (v := ?_) (by simp only [gzA, gzB, gzC] <;> rfl) (by rfl) (by kernel_rfl) (by kernel_rfl) (by kernel_rfl) (fun _ _ _ h => h) (by rfl) (by kernel_rfl) ?_ ?_
        rotate_left
        · ((intro u hu); have k1 := SlE.ld rowPf ((hS.out.below hbw).keepG hu) hx.out; have k2 := SlE.ld rowPf ((hS'.out.below hbw).keepG hu) hy.out; replace k1 : (ldT 40 (.pointer (some ⟨g0, off + k * 4, none⟩))).run Tryz.prog u = .ok (.value (.agg (ePf.enc x).toArray)) u := k1; replace k2 : (ldT 40 (.pointer (some ⟨g1, off' + k * 4, none⟩))).run Tryz.prog u = .ok (.value (.agg (ePf.enc y).toArray)) u := k2; go_simp; try with_reducible rfl)
        try simp only [Act.put, gzD, gzE, gzF]
        refine wx_pure (i := 4) (d := some 20) (v := ?_) (by simp only [gzA, gzB, gzC] <;> rfl) (by rfl) (by kernel_rfl) (by kernel_rfl) (by kernel_rfl) (fun _ _ _ h => h) (by rfl) ?_ ?_
        rotate_left
        · ((intro u); go_simp; try with_reducible rfl)
        try simp only [Act.put, gzD, gzE, gzF]
        refine wx_pure (i := 5) (d := some 21) (v := ?_) (by simp only [gzA, gzB, gzC] <;> rfl) (by rfl) (by kernel_rfl) (by kernel_rfl) (by kernel_rfl) (fun _ _ _ h => h) (by rfl) ?_ ?_
        rotate_left
        · ((intro u); go_simp; try with_reducible rfl)
        try simp only [Act.put, gzD, gzE, gzF]
        refine wx_pure (i := 6) (d := some 22) (v := ?_) (by simp only [gzA, gzB, gzC] <;> rfl) (by rfl) (by kernel_rfl) (by kernel_rfl) (by kernel_rfl) (fun _ _ _ h => h) (by rfl) ?_ ?_
        rotate_left
        · ((intro u); go_simp; try with_reducible rfl)
        try simp only [Act.put, gzD, gzE, gzF]
        refine wx_take (i := 7) (d := some 23) (v := ?_) (by simp only [gzA, gzB, gzC] <;> rfl) (by rfl) (by kernel_rfl) (by kernel_rfl) (by kernel_rfl) (fun _ _ _ h => h) (by rfl) (by kernel_rfl) ?_ ?_
        rotate_left
        · ((intro u hu); have k1 := SlE.ld rowPf ((hS.out.below hbw).keepG hu) hx.out; have k2 := SlE.ld rowPf ((hS'.out.below hbw).keepG hu) hy.out; replace k1 : (ldT 40 (.pointer (some ⟨g0, off + k * 4, none⟩))).run Tryz.prog u = .ok (.value (.agg (ePf.enc x).toArray)) u := k1; replace k2 : (ldT 40 (.pointer (some ⟨g1, off' + k * 4, none⟩))).run Tryz.prog u = .ok (.value (.agg (ePf.enc y).toArray)) u := k2; go_simp; try with_reducible rfl)
        try simp only [Act.put, gzD, gzE, gzF]
        refine wx_pure (i := 8) (d := some 24) (v := ?_) (by simp only [gzA, gzB, gzC] <;> rfl) (by rfl) (by kernel_rfl) (by kernel_rfl) (by kernel_rfl) (fun _ _ _ h => h) (by rfl) ?_ ?_
        rotate_left
        · ((intro u); go_simp; try with_reducible rfl)
        try simp only [Act.put, gzD, gzE, gzF]
        refine wx_done (by kernel_rfl) ?_ _
        skip
        generalize pfQQ x y = q at *
        cases q
        · have hne := Lib.hid (show ¬ xs = ys from fun e => by
            have h1 := hx.out
            rw [e, hy.out] at h1
            injection h1 with h1
            have := HQ.out.2 h1.symm
            cases this)
          go_wp2_with fail
          go_ret
          exact ⟨false, rfl, ⟨fun h => by (first | exact h.elim | cases h), fun h => absurd h hne.out⟩, hbw⟩
        · have hxy := HQ.out.1 rfl
          have htk2 := Lib.hid (show xs.take (k + 1) = ys.take (k + 1) by rw [List.take_add_one, List.take_add_one, htk.out, hx.out, hy.out, hxy])
          clear hxy HQ
          go_wp2_with fail
          go_roundw
          case rel => exact ⟨k + 1, by omega, by go_num, htk2, hbw⟩
          case measure => simp [intOf]; omega
      · have he := Lib.hid (show xs = ys by
          have h1 := htk.out
          rwa [List.take_of_length_le (by have := hl.out; omega), List.take_of_length_le (by have := hl'.out; omega)] at h1)
        go_wp2_with fail
        go_ret
        exact ⟨true, rfl, ⟨fun _ => he.out, fun _ => rfl⟩, hbw⟩
  · have h0 : ((n : Int) == (m : Int)) = false := by rw [beq_eq_false_iff_ne]; omega
    have hne := Lib.hid (show ¬ xs = ys from fun e => by have h1 := hl.out; have h2 := hl'.out; rw [e] at h1; omega)
    clear hnm
    go_enter Tryz.func14, Tryz.ntmps14
    go_wp2_with fail
    go_ret
    exact ⟨false, rfl, ⟨fun h => by (first | exact h.elim | cases h), fun h => absurd h hne.out⟩, Below.refl _ _⟩

end Go.Proofs.YtmgdkefoehlamaaGreatDoor
namespace Go.Proofs.YtmgdkefoehlamaaGreatDoor
open Go.RowKit
set_option linter.unusedVariables false
set_option linter.unusedSimpArgs false

def scanF : Option Pf → List Pf → Int
  | _, [] => 0
  | o, p :: r => if pfE p ≠ 0 then pfE p else if (match o with | none => false | some q => decide (p.1.n ≤ q.1.n)) then 7 else scanF (some p) r
def prevOf (ps : List Pf) : Nat → Option Pf
  | 0 => none
  | k + 1 => ps[k]?
def ScanP (ps : List Pf) (k : Nat) : Prop := (∀ p ∈ ps.take k, p.R) ∧ (∀ j p q, j + 1 < k → ps[j]? = some p → ps[j + 1]? = some q → p.1.n < q.1.n) ∧ scanF none ps = scanF (prevOf ps k) (ps.drop k)
theorem scan_start (ps : List Pf) : ScanP ps 0 := ⟨fun p hp => by simp at hp, fun j p q h => by omega, rfl⟩
theorem scan_at {ps : List Pf} {k : Nat} {p : Pf} (h : ScanP ps k) (hp : ps[k]? = some p) : pfE p ≠ 0 → scanF none ps = pfE p := fun hE => by
  obtain ⟨hk, hpe⟩ := List.getElem?_eq_some_iff.1 hp
  rw [h.2.2, List.drop_eq_getElem_cons hk, hpe]
  unfold scanF
  rw [if_pos hE]
theorem take_R {ps : List Pf} {k : Nat} {p : Pf} (h : ∀ x ∈ ps.take k, x.R) (hp : ps[k]? = some p) (hpR : p.R) : ∀ x ∈ ps.take (k + 1), x.R := by
  intro x hx
  rw [List.take_add_one, hp] at hx
  rcases List.mem_append.1 hx with hx | hx
  · exact h x hx
  · simp at hx; rw [hx]; exact hpR
theorem scanP_zero {ps : List Pf} {p : Pf} (h : ScanP ps 0) (hp : ps[0]? = some p) (hpR : p.R) : ScanP ps 1 := by
  refine ⟨take_R h.1 hp hpR, fun j p q hj => by omega, ?_⟩
  obtain ⟨hk, hpe⟩ := List.getElem?_eq_some_iff.1 hp
  rw [h.2.2, List.drop_eq_getElem_cons hk, hpe]
  show scanF none (p :: ps.drop 1) = scanF ps[0]? (ps.drop 1)
  rw [hp, scanF, if_neg (by rw [(pfE_iff hpR.1.1).2 hpR]; decide), if_neg (by decide)]
theorem scan_next {ps : List Pf} {k : Nat} {p q : Pf} (h : ScanP ps (k + 1)) (hq : ps[k]? = some q) (hp : ps[k + 1]? = some p) (hpR : p.R) : (q.1.n < p.1.n → ScanP ps (k + 2)) ∧ (¬ q.1.n < p.1.n → scanF none ps = 7) := by
  obtain ⟨hk, hpe⟩ := List.getElem?_eq_some_iff.1 hp
  have e : scanF none ps = if decide (p.1.n ≤ q.1.n) then 7 else scanF (some p) (ps.drop (k + 2)) := by
    rw [h.2.2, List.drop_eq_getElem_cons hk, hpe]
    show scanF ps[k]? (p :: ps.drop (k + 2)) = _
    rw [hq, scanF, if_neg (by rw [(pfE_iff hpR.1.1).2 hpR]; decide)]
  refine ⟨fun hlt => ⟨take_R h.1 hp hpR, fun j x y hj hx hy => ?_, ?_⟩, fun hn => ?_⟩
  · by_cases hjk : j + 1 < k + 1
    · exact h.2.1 j x y hjk hx hy
    · have : j = k := by omega
      subst this
      rw [hq] at hx; rw [hp] at hy
      cases hx; cases hy; exact hlt
  · rw [e, if_neg (by rw [decide_eq_true_eq]; omega)]
    show _ = scanF ps[k + 1]? _
    rw [hp]
  · rw [e, if_pos (by rw [decide_eq_true_eq]; omega)]
theorem scan_end {ps : List Pf} {k : Nat} (h : ScanP ps k) (hk : ps.length ≤ k) : (∀ p ∈ ps, p.R) ∧ (∀ j p q, ps[j]? = some p → ps[j + 1]? = some q → p.1.n < q.1.n) ∧ scanF none ps = 0 := by
  obtain ⟨h1, h2, h3⟩ := h
  rw [List.take_of_length_le hk] at h1
  refine ⟨h1, fun j p q hp hq => h2 j p q ?_ hp hq, ?_⟩
  · have := (List.getElem?_eq_some_iff.1 hq).1; omega
  · rw [h3, List.drop_of_length_le hk]; cases prevOf ps k <;> rfl
theorem least_get : ∀ (l : List Bk), LeastL l ↔ ∀ j p q, l[j]? = some p → l[j + 1]? = some q → Apart p q
  | [] => ⟨fun _ j p q h => by simp at h, fun _ => trivial⟩
  | [x] => ⟨fun _ j p q _ h => by simp at h, fun _ => trivial⟩
  | x :: y :: r => by
    have ih := least_get (y :: r)
    constructor
    · rintro ⟨h1, h2⟩ j p q hp hq
      cases j with
      | zero => simp at hp hq; subst hp; subst hq; exact h1
      | succ j => exact ih.1 h2 j p q (by simpa using hp) (by simpa using hq)
    · intro h
      exact ⟨h 0 x y rfl rfl, ih.2 fun j p q hp hq => h (j + 1) p q (by simpa using hp) (by simpa using hq)⟩
open Classical in
noncomputable def setF (ps : List Pf) : Int := if scanF none ps ≠ 0 then scanF none ps else if LeastL (ps.map blk) then 0 else 16

theorem falls_of {ps : List Pf} {ys : List (Ad × Ad)} (hR : ∀ p ∈ ps, p.R) (hj : Joined ys (ps.map rgP)) : Falls (ys.reverse.map iv) (ps.map blk) ∧ rowsOf (ys.reverse.map iv) = ys.map rowA := by
  refine ⟨⟨hj.1, fun k => ?_⟩, ?_⟩
  · rw [← map_iv_rgP ps hR, List.map_reverse, inP_reverse]
    exact hj.2.1 k
  · unfold rowsOf
    rw [← List.map_reverse (l := ys.reverse), List.reverse_reverse, List.map_map]
    apply List.map_congr_left
    intro x _
    show (((x.1.n : Int)).toNat, ((x.2.n : Int) + 1).toNat) = (x.1.n, x.2.n + 1)
    rw [Int.toNat_natCast]
    congr 1
theorem blks_ok {ps : List Pf} (hR : ∀ p ∈ ps, p.R) : AlL (ps.map blk) ∧ ∀ b ∈ ps.map blk, OkB b := by
  constructor
  · intro b hb
    obtain ⟨p, hp, rfl⟩ := List.mem_map.1 hb
    exact (hR p hp).blk_ok.1
  · intro b hb
    obtain ⟨p, hp, rfl⟩ := List.mem_map.1 hb
    exact (hR p hp).blk_ok.2
theorem cuts_ok {l : List (Nat × Nat)} (h : ∀ x ∈ l, Row x) : ∀ b ∈ cuts l, Al b ∧ OkB b := by
  intro b hb
  obtain ⟨x, hx, h1, h2, h3⟩ := cuts_in l h b hb
  refine ⟨cuts_al l h b hb, ?_⟩
  have := (h x hx).2
  unfold OkB
  unfold OkX at *
  omega
theorem rows_R {ys : List (Ad × Ad)} (h : ∀ y ∈ ys, RgR y) : ∀ x ∈ ys.map rowA, Row x := by
  intro x hx
  obtain ⟨y, hy, rfl⟩ := List.mem_map.1 hx
  exact rowA_row (h y hy)
theorem map_blk_pfOf : ∀ (l : List Bk), (∀ b ∈ l, OkB b) → (l.map pfOf).map blk = l
  | [], _ => rfl
  | b :: r, h => by rw [List.map_cons, List.map_cons, blk_pfOf (h b List.mem_cons_self), map_blk_pfOf r (fun x hx => h x (List.mem_cons_of_mem _ hx))]
theorem map_pfOf_blk : ∀ (l : List Pf), (∀ p ∈ l, p.R) → (l.map blk).map pfOf = l
  | [], _ => rfl
  | b :: r, h => by rw [List.map_cons, List.map_cons, pfOf_blk (h b List.mem_cons_self), map_pfOf_blk r (fun x hx => h x (List.mem_cons_of_mem _ hx))]
theorem pfsOf_R {ys : List (Ad × Ad)} (h : ∀ y ∈ ys, RgR y) : ∀ p ∈ pfsOf (ys.map rowA), p.R := by
  intro p hp
  obtain ⟨b, hb, rfl⟩ := List.mem_map.1 hp
  obtain ⟨h1, h2⟩ := cuts_ok (rows_R h) b hb
  exact pfOf_R h1 h2
theorem leastP_same {ps : List Pf} {ys : List (Ad × Ad)} (hR : ∀ p ∈ ps, p.R) (hj : Joined ys (ps.map rgP)) : (pfsOf (ys.map rowA) = ps ↔ LeastL (ps.map blk)) ∧ (pfsOf (ys.map rowA)).length ≤ ps.length := by
  obtain ⟨h1, h2⟩ := falls_of hR hj
  obtain ⟨h3, h4⟩ := blks_ok hR
  have h5 := least_iff h1 h3 h4
  have h6 := cuts_le h1 h3 h4
  rw [h2] at h5 h6
  constructor
  · rw [← h5]
    constructor
    · intro h
      have := congrArg (List.map blk) h
      unfold pfsOf at this
      rwa [map_blk_pfOf _ (fun b hb => (cuts_ok (rows_R hj.2.2) b hb).2)] at this
    · intro h
      unfold pfsOf
      rw [h, map_pfOf_blk ps hR]
  · unfold pfsOf
    rw [List.length_map] at h6 ⊢
    exact h6
theorem compare_n (a b : Ad) (w : World) (ha : a.U) (hb : b.U) : Calls Tryz.prog 38 #[adA a, adA b] w (GivesV (.int .i64 (cmpN a.n b.n)) w) := by
  have := compare_any a.s a.hi a.lo b.s b.hi b.lo w ha.1.1 ha.1.2 ha.2.1 ha.2.2 hb.1.1 hb.1.2 hb.2.1 hb.2.2
  rwa [show cmpW (num a.hi a.lo) a.s (num b.hi b.lo) b.s = cmpN a.n b.n from cmpW_cmpN ha hb] at this
end Go.Proofs.YtmgdkefoehlamaaGreatDoor
namespace Go.Proofs.YtmgdkefoehlamaaGreatDoor
open Go.RowKit
set_option linter.unusedVariables false
set_option linter.unusedSimpArgs false

end Go.Proofs.YtmgdkefoehlamaaGreatDoor
namespace Go.Proofs.YtmgdkefoehlamaaGreatDoor
open Go.RowKit
set_option linter.unusedVariables false
set_option linter.unusedSimpArgs false

def Val (m : Nat) : Prop := m < 2 ^ 32 ∨ (2 ^ 128 ≤ m ∧ m < 2 ^ 129)
def InA (xs : List (Ad × Ad)) (m : Nat) : Prop := ∃ x ∈ xs, x.1.n ≤ m ∧ m ≤ x.2.n
theorem inA_iff (xs : List (Ad × Ad)) (m : Nat) : InP (xs.map iv) (m : Int) ↔ InA xs m := by
  unfold InP InA
  constructor
  · rintro ⟨p, hp, h1, h2⟩
    obtain ⟨x, hx, rfl⟩ := List.mem_map.1 hp
    have h1' : (x.1.n : Int) ≤ m := h1
    have h2' : (m : Int) ≤ x.2.n := h2
    exact ⟨x, hx, by omega, by omega⟩
  · rintro ⟨x, hx, h1, h2⟩
    refine ⟨iv x, List.mem_map_of_mem hx, ?_, ?_⟩
    · show (x.1.n : Int) ≤ m; omega
    · show (m : Int) ≤ x.2.n; omega
theorem inP_pos {xs : List (Ad × Ad)} {k : Int} (h : InP (xs.map iv) k) : 0 ≤ k := by
  obtain ⟨p, hp, h1, _⟩ := h
  obtain ⟨x, _, rfl⟩ := List.mem_map.1 hp
  have : (x.1.n : Int) ≤ k := h1
  omega
theorem inA_nil (m : Nat) : ¬ InA [] m := by rintro ⟨x, hx, _⟩; cases hx
theorem inA_cons (x : Ad × Ad) (xs : List (Ad × Ad)) (m : Nat) : InA (x :: xs) m ↔ (x.1.n ≤ m ∧ m ≤ x.2.n) ∨ InA xs m := by
  unfold InA
  constructor
  · rintro ⟨y, hy, h⟩
    rcases List.mem_cons.1 hy with rfl | hy
    · exact .inl h
    · exact .inr ⟨y, hy, h⟩
  · rintro (h | ⟨y, hy, h⟩)
    · exact ⟨x, List.mem_cons_self, h⟩
    · exact ⟨y, List.mem_cons_of_mem _ hy, h⟩
theorem inA_append (xs ys : List (Ad × Ad)) (m : Nat) : InA (xs ++ ys) m ↔ InA xs m ∨ InA ys m := by
  unfold InA
  constructor
  · rintro ⟨y, hy, h⟩
    rcases List.mem_append.1 hy with hy | hy
    · exact .inl ⟨y, hy, h⟩
    · exact .inr ⟨y, hy, h⟩
  · rintro (⟨y, hy, h⟩ | ⟨y, hy, h⟩)
    · exact ⟨y, List.mem_append_left _ hy, h⟩
    · exact ⟨y, List.mem_append_right _ hy, h⟩
theorem inA_val {xs : List (Ad × Ad)} (h : ∀ x ∈ xs, RgR x) {m : Nat} (hm : InA xs m) : Val m := by
  obtain ⟨x, hx, h1, h2⟩ := hm
  obtain ⟨r1, r2, r3, r4⟩ := h x hx
  rcases r1.six with ⟨a1, a2, a3⟩ | ⟨a1, a2, a3⟩ <;> rcases r2.six with ⟨b1, b2, b3⟩ | ⟨b1, b2, b3⟩
  · exact .inl (by omega)
  · rw [a1, b1] at r3; cases r3
  · rw [a1, b1] at r3; cases r3
  · exact .inr (by omega)

def Tells (ys : List (Ad × Ad)) (P : Nat → Prop) : Prop := ys.Pairwise (fun x y => x.2.n + 1 < y.1.n) ∧ (∀ m, InA ys m ↔ P m) ∧ ∀ y ∈ ys, RgR y
theorem rows_iv (ys : List (Ad × Ad)) : rowsOf (ys.reverse.map iv) = ys.map rowA := by
  unfold rowsOf
  rw [← List.map_reverse (l := ys.reverse), List.reverse_reverse, List.map_map]
  apply List.map_congr_left
  intro x _
  show (((x.1.n : Int)).toNat, ((x.2.n : Int) + 1).toNat) = (x.1.n, x.2.n + 1)
  rw [Int.toNat_natCast]
  congr 1
theorem toP_rowA (ys : List (Ad × Ad)) : (ys.map rowA).map toP = ys.map iv := by
  rw [List.map_map]
  apply List.map_congr_left
  intro x _
  show ((x.1.n : Int), ((x.2.n + 1 : Nat) : Int) - 1) = ((x.1.n : Int), (x.2.n : Int))
  congr 1
  omega
theorem pairs_rowA {ys : List (Ad × Ad)} : (ys.map rowA).Pairwise (fun x y => x.2 < y.1) ↔ ys.Pairwise (fun x y => x.2.n + 1 < y.1.n) := by
  rw [List.pairwise_map]; rfl
theorem Joined.tells {ys xs : List (Ad × Ad)} (h : Joined ys xs) : Tells ys (InA xs) := by
  refine ⟨?_, fun m => ?_, h.2.2⟩
  · have h1 := canR_pairs _ _ h.1 (fun p hp => by
      obtain ⟨x, _, rfl⟩ := List.mem_map.1 hp
      show (0 : Int) ≤ (x.1.n : Int)
      omega)
    rw [rows_iv] at h1
    exact pairs_rowA.1 h1
  · rw [← inA_iff, ← inA_iff]; exact h.2.1 m
theorem Tells.joined {ys xs : List (Ad × Ad)} (h : Tells ys (InA xs)) : Joined ys xs := by
  refine ⟨?_, fun k => ?_, h.2.2⟩
  · have h1 := rows_can (ys.map rowA) (fun x hx => by
      obtain ⟨y, hy, rfl⟩ := List.mem_map.1 hx
      exact rowA_row (h.2.2 y hy)) (pairs_rowA.2 h.1)
    rw [toP_rowA, ← List.map_reverse] at h1
    exact h1
  · constructor
    · intro hk
      obtain ⟨m, rfl⟩ := Int.eq_ofNat_of_zero_le (inP_pos hk)
      exact (inA_iff _ _).2 ((h.2.1 m).1 ((inA_iff _ _).1 hk))
    · intro hk
      obtain ⟨m, rfl⟩ := Int.eq_ofNat_of_zero_le (inP_pos hk)
      exact (inA_iff _ _).2 ((h.2.1 m).2 ((inA_iff _ _).1 hk))
theorem Tells.iff {ys : List (Ad × Ad)} {P Q : Nat → Prop} (h : Tells ys P) (he : ∀ m, P m ↔ Q m) : Tells ys Q := ⟨h.1, fun m => (h.2.1 m).trans (he m), h.2.2⟩
theorem Tells.self {ys : List (Ad × Ad)} {P : Nat → Prop} (h : Tells ys P) : Tells ys (InA ys) := ⟨h.1, fun _ => Iff.rfl, h.2.2⟩
theorem Tells.unique {ys zs : List (Ad × Ad)} {P Q : Nat → Prop} (h : Tells ys P) (h' : Tells zs Q) (he : ∀ m, P m ↔ Q m) : ys = zs := by
  refine Joined.unique h.self.joined h'.self.joined (fun k => ?_)
  constructor
  · intro hk
    obtain ⟨m, rfl⟩ := Int.eq_ofNat_of_zero_le (inP_pos hk)
    exact (inA_iff _ _).2 ((h'.2.1 m).2 ((he m).1 ((h.2.1 m).1 ((inA_iff _ _).1 hk))))
  · intro hk
    obtain ⟨m, rfl⟩ := Int.eq_ofNat_of_zero_le (inP_pos hk)
    exact (inA_iff _ _).2 ((h.2.1 m).2 ((he m).2 ((h'.2.1 m).1 ((inA_iff _ _).1 hk))))

theorem apart_two : ∀ {l : List (Ad × Ad)}, l.Pairwise (fun x y => x.2.n + 1 < y.1.n) → ∀ {x y : Ad × Ad}, x ∈ l → y ∈ l → x ≠ y → x.2.n + 1 < y.1.n ∨ y.2.n + 1 < x.1.n
  | [], _, _, _, hx, _, _ => by cases hx
  | z :: t, hp, x, y, hx, hy, hne => by
    have hp' := List.pairwise_cons.1 hp
    rcases List.mem_cons.1 hx with rfl | hx'
    · rcases List.mem_cons.1 hy with rfl | hy'
      · exact absurd rfl hne
      · exact .inl (hp'.1 y hy')
    · rcases List.mem_cons.1 hy with rfl | hy'
      · exact .inr (hp'.1 x hx')
      · exact apart_two hp'.2 hx' hy' hne
theorem Tells.one {ys : List (Ad × Ad)} {P : Nat → Prop} (h : Tells ys P) : ∀ (n a : Nat), (∀ m, a ≤ m → m ≤ a + n → P m) → ∃ y ∈ ys, y.1.n ≤ a ∧ a + n ≤ y.2.n
  | 0, a, ha => (h.2.1 a).2 (ha a (Nat.le_refl _) (Nat.le_refl _))
  | n + 1, a, ha => by
    obtain ⟨x, hx, h1, h2⟩ := h.one n a (fun m hm1 hm2 => ha m hm1 (by omega))
    obtain ⟨y, hy, h3, h4⟩ := (h.2.1 (a + (n + 1))).2 (ha _ (by omega) (Nat.le_refl _))
    by_cases he : a + (n + 1) ≤ x.2.n
    · exact ⟨x, hx, h1, he⟩
    · exfalso
      have hne : x ≠ y := by rintro rfl; omega
      have hyr := (h.2.2 y hy).2.2.2
      rcases apart_two h.1 hx hy hne with k | k <;> omega
instance : DecidableEq Ad := fun a b => decidable_of_iff (a.s = b.s ∧ a.hi = b.hi ∧ a.lo = b.lo) (by cases a; cases b; simp)
end Go.Proofs.YtmgdkefoehlamaaGreatDoor
namespace Go.Proofs.YtmgdkefoehlamaaGreatDoor
open Go.RowKit
set_option linter.unusedVariables false
set_option linter.unusedSimpArgs false

theorem dy_in {a b i j t : Nat} (ha : 2 ^ i ∣ a) (hb : 2 ^ j ∣ b) (hj : j ≤ i) (h1 : a ≤ t) (h2 : t < a + 2 ^ i) (h3 : b ≤ t) (h4 : t < b + 2 ^ j) : a ≤ b ∧ b + 2 ^ j ≤ a + 2 ^ i := by
  obtain ⟨r, hr⟩ := Nat.pow_dvd_pow 2 hj
  obtain ⟨u, hu⟩ := Nat.dvd_trans (Nat.pow_dvd_pow 2 hj) ha
  obtain ⟨v, hv⟩ := hb
  have hp := Nat.two_pow_pos j
  generalize 2 ^ j = J at *
  generalize 2 ^ i = I at *
  subst hr hu hv
  have k1 : u ≤ v := by
    rcases Nat.lt_or_ge v u with h | h
    · have := Nat.mul_le_mul_left J (Nat.succ_le_of_lt h)
      rw [Nat.mul_succ] at this
      omega
    · exact h
  have k2 : v < u + r := by
    rcases Nat.lt_or_ge v (u + r) with h | h
    · exact h
    · have := Nat.mul_le_mul_left J h
      rw [Nat.mul_add] at this
      omega
  have k3 := Nat.mul_le_mul_left J k1
  have k4 := Nat.mul_le_mul_left J (Nat.succ_le_of_lt k2)
  rw [Nat.mul_succ, Nat.mul_add] at k4
  exact ⟨k3, k4⟩
def buddy (q : Bk) (k : Nat) : Bk := ((if q.1 / 2 ^ k % 2 = 0 then q.1 / 2 ^ k + 1 else q.1 / 2 ^ k - 1) * 2 ^ k, k)
def budL (qs : List Bk) : List Bk := qs.flatMap fun q => (List.range 128).map fun k => buddy q k
theorem budL_len : ∀ qs : List Bk, (budL qs).length = qs.length * 128
  | [] => rfl
  | q :: r => by
    have e : budL (q :: r) = ((List.range 128).map fun k => buddy q k) ++ budL r := rfl
    rw [e, List.length_append, budL_len r, List.length_map, List.length_range, List.length_cons]
    omega
theorem mem_budL {qs : List Bk} {q : Bk} (h : q ∈ qs) {k : Nat} (hk : k < 128) : buddy q k ∈ budL qs :=
  List.mem_flatMap.2 ⟨q, h, List.mem_map.2 ⟨k, List.mem_range.2 hk, rfl⟩⟩
def InB (b : Bk) (m : Nat) : Prop := b.1 ≤ m ∧ m < b.1 + 2 ^ b.2
theorem buddy_is {q : Bk} {c m k : Nat} (hq : 2 ^ q.2 ∣ q.1) (hqk : q.2 ≤ k) (hc : 2 ^ k ∣ c) (hm : InB q m) (hp : m / 2 ^ (k + 1) = c / 2 ^ (k + 1)) (hn : ¬ (c ≤ m ∧ m < c + 2 ^ k)) : buddy q k = (c, k) := by
  have hpk := Nat.two_pow_pos k
  have hA : q.1 / 2 ^ k = m / 2 ^ k := by
    have h1 := dy_in (a := q.1 / 2 ^ k * 2 ^ k) (b := q.1) (i := k) (j := q.2) (t := q.1) ⟨_, Nat.mul_comm _ _⟩ hq hqk (Nat.div_mul_le_self _ _) (by have := Nat.lt_div_mul_add (a := q.1) hpk; omega) (Nat.le_refl _) (by have := Nat.two_pow_pos q.2; omega)
    have h2 : m < (q.1 / 2 ^ k + 1) * 2 ^ k := by rw [Nat.add_mul, Nat.one_mul]; have := hm.2; omega
    have h3 : q.1 / 2 ^ k * 2 ^ k ≤ m := Nat.le_trans h1.1 hm.1
    exact Nat.le_antisymm ((Nat.le_div_iff_mul_le hpk).2 h3) (Nat.le_of_lt_succ ((Nat.div_lt_iff_lt_mul hpk).2 h2))
  obtain ⟨C, hC⟩ := hc
  have hcd : c / 2 ^ k = C := by rw [hC, Nat.mul_div_cancel_left _ hpk]
  rw [Nat.pow_succ, ← Nat.div_div_eq_div_mul, ← Nat.div_div_eq_div_mul, hcd] at hp
  have hne : m / 2 ^ k ≠ C := by
    intro e
    apply hn
    have h1 := Nat.div_mul_le_self m (2 ^ k)
    have h2 := Nat.lt_div_mul_add (a := m) hpk
    rw [e, Nat.mul_comm, ← hC] at h1
    rw [e, Nat.mul_comm, ← hC] at h2
    exact ⟨h1, h2⟩
  unfold buddy
  rw [hA]
  generalize m / 2 ^ k = A at *
  have e : (if A % 2 = 0 then A + 1 else A - 1) = C := by
    by_cases h : A % 2 = 0
    · rw [if_pos h]; omega
    · rw [if_neg h]; omega
  rw [e, hC, Nat.mul_comm]
def wholes : List Bk := [(0, 32), (2 ^ 128, 128)]
theorem blocks_le {ys : List (Ad × Ad)} {P : Nat → Prop} (h : Tells ys P) (es qs : List Bk) (hes : AlL es) (hqs : AlL qs)
    (hk : ∀ m m', P m → Val m' → ¬ P m' → (∃ a ∈ es, InB a m ∧ ¬ InB a m') ∨ (∃ q ∈ qs, ¬ InB q m ∧ InB q m')) :
    (cuts (ys.map rowA)).length ≤ es.length + qs.length * 128 + 2 := by
  have hr := rows_R h.2.2
  have hpr := pairs_rowA.2 h.1
  refine Nat.le_trans (count_le _ (es ++ budL qs ++ wholes) (least_pairs _ (cuts_least _ hr hpr)) (fun c hc => ?_)) (by
    rw [List.length_append, List.length_append, budL_len]; exact Nat.le_refl _)
  obtain ⟨x, hx, h1, h2, hcx⟩ := cuts_in _ hr c hc
  obtain ⟨y, hy, rfl⟩ := List.mem_map.1 hx
  obtain ⟨hal, hok⟩ := cuts_ok hr c hc
  have hpc := Nat.two_pow_pos c.2
  have h1' : y.1.n ≤ c.1 := h1
  have h2' : c.1 + 2 ^ c.2 ≤ y.2.n + 1 := h2
  have hPc : ∀ m, c.1 ≤ m → m < c.1 + 2 ^ c.2 → P m := fun m hm1 hm2 => (h.2.1 m).1 ⟨y, hy, by omega, by omega⟩
  have fin : ∀ b : Bk, b ∈ es ++ budL qs ++ wholes → c.1 ≤ b.1 → b.1 + 2 ^ b.2 ≤ c.1 + 2 ^ c.2 → ∃ b ∈ es ++ budL qs ++ wholes, c.1 ≤ b.1 ∧ b.1 + 2 ^ b.2 ≤ c.1 + 2 ^ c.2 := fun b hb k1 k2 => ⟨b, hb, k1, k2⟩
  by_cases hw : c ∈ wholes
  · exact fin c (List.mem_append_right _ hw) (Nat.le_refl _) (Nat.le_refl _)
  have hw1 : c ≠ (0, 32) := fun e => hw (by rw [e]; exact List.mem_cons_self)
  have hw2 : c ≠ (2 ^ 128, 128) := fun e => hw (by rw [e]; exact List.mem_cons_of_mem _ List.mem_cons_self)
  obtain ⟨p1, hp1⟩ : ∃ p1, p1 = c.1 / 2 ^ (c.2 + 1) * 2 ^ (c.2 + 1) := ⟨_, rfl⟩
  have hpp := Nat.two_pow_pos (c.2 + 1)
  have hps : 2 ^ (c.2 + 1) = 2 * 2 ^ c.2 := by rw [Nat.pow_succ, Nat.mul_comm]
  have hpd : 2 ^ (c.2 + 1) ∣ p1 := ⟨_, by rw [hp1, Nat.mul_comm]⟩
  have hple : p1 ≤ c.1 := by rw [hp1]; exact Nat.div_mul_le_self _ _
  have hplt : c.1 < p1 + 2 ^ (c.2 + 1) := by rw [hp1]; exact Nat.lt_div_mul_add hpp
  have hsmall : c.2 < 128 ∧ ∀ m, p1 ≤ m → m < p1 + 2 ^ (c.2 + 1) → Val m := by
    obtain ⟨_, ho⟩ := okB_small hok
    have hok' : OkX c.1 (c.1 + 2 ^ c.2) := hok
    rcases ho with ⟨o1, o2⟩ | ⟨o1, o2⟩
    · have hlt : c.2 < 32 := by
        rcases Nat.lt_or_ge c.2 32 with h | h
        · exact h
        · exfalso
          have e : c.2 = 32 := by omega
          have e1 : c.1 = 0 := by
            have := aligned_top (V := c.1) (k := 32) (N := 32) (by rw [← e]; exact hal) (Nat.le_refl _) o1
            omega
          exact hw1 (Prod.ext e1 e)
      refine ⟨by omega, fun m _ hm => .inl ?_⟩
      have := aligned_top (V := p1) (k := c.2 + 1) (N := 32) hpd (by omega) (by omega)
      omega
    · have hlt : c.2 < 128 := by
        rcases Nat.lt_or_ge c.2 128 with h | h
        · exact h
        · exfalso
          have e : c.2 = 128 := by omega
          have e1 : c.1 = 2 ^ 128 := by
            rcases hok' with k | ⟨_, k⟩
            · omega
            · rw [e] at k; omega
          exact hw2 (Prod.ext e1 e)
      refine ⟨hlt, fun m hm1 hm => .inr ⟨?_, ?_⟩⟩
      · obtain ⟨r, hr⟩ := Nat.pow_dvd_pow 2 (show c.2 + 1 ≤ 128 by omega)
        have h3 : r ≤ c.1 / 2 ^ (c.2 + 1) := (Nat.le_div_iff_mul_le hpp).2 (by rw [Nat.mul_comm, ← hr]; exact o1)
        have h4 := Nat.mul_le_mul_right (2 ^ (c.2 + 1)) h3
        rw [← hp1, Nat.mul_comm, ← hr] at h4
        omega
      · have hcl : c.1 < 2 ^ 129 := by
          rcases hok' with k | ⟨_, k⟩
          · omega
          · omega
        have := aligned_top (V := p1) (k := c.2 + 1) (N := 129) hpd (by omega) (by omega)
        omega
  obtain ⟨hk128, hpv⟩ := hsmall
  have hnot : ∃ m, (p1 ≤ m ∧ m < p1 + 2 ^ (c.2 + 1)) ∧ ¬ P m := by
    apply Classical.byContradiction
    intro hno
    have hall : ∀ m, p1 ≤ m → m ≤ p1 + (2 ^ (c.2 + 1) - 1) → P m := fun m hm1 hm2 => Classical.byContradiction fun hc => hno ⟨m, ⟨hm1, by omega⟩, hc⟩
    obtain ⟨z, hz, h3, h4⟩ := h.one _ p1 hall
    have hzy : y = z := by
      by_cases e : y = z
      · exact e
      · rcases apart_two h.1 hy hz e with k | k <;> omega
    subst hzy
    have := cut_max (rowA y).2 _ (rowA y).1 (Nat.le_refl _) (hr _ hx).2.small c hcx (p1, c.2 + 1) hpd h3 (by show p1 + 2 ^ (c.2 + 1) ≤ y.2.n + 1; omega) hple hplt
    omega
  obtain ⟨m', ⟨hm1, hm2⟩, hm3⟩ := hnot
  rcases hk c.1 m' (hPc _ (Nat.le_refl _) (by omega)) (hpv m' hm1 hm2) hm3 with ⟨a, ha, h3, h4⟩ | ⟨q, hq, h3, h4⟩
  · have hle : a.2 ≤ c.2 := by
      rcases Nat.lt_or_ge c.2 a.2 with hlt | h
      · exfalso
        have := dy_in (hes a ha) hpd hlt h3.1 h3.2 hple hplt
        exact h4 ⟨by omega, by omega⟩
      · exact h
    have := dy_in hal (hes a ha) hle (Nat.le_refl _) (by omega) h3.1 h3.2
    exact fin a (List.mem_append_left _ (List.mem_append_left _ ha)) this.1 this.2
  · have hle : q.2 ≤ c.2 := by
      rcases Nat.lt_or_ge c.2 q.2 with hlt | h
      · exfalso
        have := dy_in (hqs q hq) hpd hlt h4.1 h4.2 hm1 hm2
        exact h3 ⟨by omega, by omega⟩
      · exact h
    have hdm : m' / 2 ^ (c.2 + 1) = c.1 / 2 ^ (c.2 + 1) := by
      have k1 : c.1 / 2 ^ (c.2 + 1) ≤ m' / 2 ^ (c.2 + 1) := (Nat.le_div_iff_mul_le hpp).2 (by rw [← hp1]; exact hm1)
      have k2 : m' / 2 ^ (c.2 + 1) < c.1 / 2 ^ (c.2 + 1) + 1 := (Nat.div_lt_iff_lt_mul hpp).2 (by rw [Nat.add_mul, Nat.one_mul, ← hp1]; exact hm2)
      omega
    have hb := buddy_is (hqs q hq) hle hal h4 hdm (fun hc => hm3 (hPc m' hc.1 hc.2))
    exact fin (buddy q c.2) (List.mem_append_left _ (List.mem_append_right _ (mem_budL hq hk128))) (by rw [hb]; exact Nat.le_refl _) (by rw [hb]; exact Nat.le_refl _)
end Go.Proofs.YtmgdkefoehlamaaGreatDoor
