/- Sets: the address ahead of another one. -/
import Derived.Test.YtmgdkefoehlamaaGreatDoorKoGzA
import Derived.Test.YtmgdkefoehlamaaGreatDoorKoStT
import Derived.Test.YtmgdkefoehlamaaGreatDoorKoLaneD
import Derived.Test.YtmgdkefoehlamaaGreatDoorKoStM
import Derived.Test.YtmgdkefoehlamaaGreatDoorKoStO
set_option linter.unusedVariables false
set_option linter.unusedSimpArgs false
set_option maxRecDepth 100000
namespace Go.Proofs.YtmgdkefoehlamaaGreatDoor
open Go.RowKit

set_option maxHeartbeats 2000000 in
theorem leastOf_any (A : Option Addr) (n cap : Nat) (ps : List Pf) (w : World) (hS : SlE ePf w A n cap ps) (hn : n ≤ 1000) (hR : ∀ p ∈ ps, p.R) :
    Calls Tryz.prog 24 #[.slice A n cap] w fun e w' => ∃ ys, Joined ys (ps.map rgP) ∧ ys.length ≤ n ∧ GivesO ePf 40 w.heap.size (pfsOf (ys.map rowA)) e w' ∧ Below w.heap.size w w' := by
  have HS := Lib.hid (ofS_any A n cap ps w hS (by omega) hR)
  clear hS hR
  go_enter Tryz.func24, Tryz.ntmps24
  go_wp2_with fail
  refine HS.out.mono ?_
  rintro e w1 ⟨ys, hy1, hy2, ⟨A2, cap2, rfl, hSl, hA⟩, hb1⟩
  have HP := Lib.hid (prefixesR_any A2 ys.length cap2 ys w1 hSl (by omega) hy1.2.2)
  replace hy1 := Lib.hid hy1
  clear HS hSl hA
  obtain ⟨L, hL⟩ : ∃ m, m = ys.length := ⟨_, rfl⟩
  rw [← hL] at HP hy2 ⊢
  replace hL := Lib.hid hL
  go_wp2_with fail
  refine HP.out.mono ?_
  rintro e w2 ⟨⟨v4, rfl, ho4⟩, hb2⟩
  clear HP
  go_wp2_with fail
  go_ret
  exact ⟨ys, hy1.out, by rw [← hL.out]; exact hy2, ⟨v4, rfl, ho4.mono hb1.size⟩, hb1.trans (hb2.mono hb1.size)⟩


theorem SlE.keepG {α : Type} {E : Enc α} {w u : World} {A : Option Addr} {n cap : Nat} {xs : List α} (h : SlE E w A n cap xs) (hu : w.grownBy u none) : SlE E u A n cap xs := h.below (gb2B hu)
def pfQQ (p q : Pf) : Bool := pfQ p.1.s q.1.s p.1.hi p.1.lo q.1.hi q.1.lo p.2 q.2
@[go_sem] theorem run_nePfA (x y : Operand) (p q : Pf) (w : World) : (nePf x y (.agg (pfC p).toArray) (.agg (pfC q).toArray)).run Tryz.prog w = .ok (.value (.bool (!pfQQ p q))) w :=
  run_nePf x y p.1.s q.1.s p.1.hi p.1.lo q.1.hi q.1.lo p.2 q.2 w
@[go_sem] theorem run_nePfE (x y : Operand) (p q : Pf) (w : World) : (nePf x y (.agg (ePf.enc p).toArray) (.agg (ePf.enc q).toArray)).run Tryz.prog w = .ok (.value (.bool (!pfQQ p q))) w := run_nePfA x y p q w
theorem pfQQ_iff (p q : Pf) : pfQQ p q = true ↔ p = q := by
  obtain ⟨⟨s, hi, lo⟩, n⟩ := p
  obtain ⟨⟨t, hh, l⟩, m⟩ := q
  unfold pfQQ pfQ
  simp only [Bool.and_eq_true, beq_iff_eq]
  constructor
  · rintro h
    obtain ⟨h1, h2, h3, h4⟩ : s = t ∧ hi = hh ∧ lo = l ∧ n = m := by simpa [and_assoc] using h
    subst h1; subst h2; subst h3; subst h4; rfl
  · intro h
    injection h with h1 h2
    injection h1 with h3 h4 h5
    subst h2; subst h3; subst h4; subst h5
    simp
def rgQQ (x y : Ad × Ad) : Bool := adE x.1 y.1 && adE x.2 y.2
theorem adE_eq (a b : Ad) : adE a b = true ↔ a = b := by
  obtain ⟨s, hi, lo⟩ := a
  obtain ⟨t, hh, l⟩ := b
  unfold adE adQ
  simp only [Bool.and_eq_true, beq_iff_eq]
  constructor
  · rintro h
    obtain ⟨h1, h2, h3⟩ : s = t ∧ hi = hh ∧ lo = l := by simpa [and_assoc] using h
    subst h1; subst h2; subst h3; rfl
  · intro h
    injection h with h3 h4 h5
    subst h3; subst h4; subst h5
    simp
set_option maxHeartbeats 1000000 in
theorem rg_equalIn (x y : Ad × Ad) (w : World) : (Op.equalIn 10000 53 (.agg (rgC x).toArray) (.agg (rgC y).toArray)).run Tryz.prog w = .ok (rgQQ x y) w := by
  unfold rgC
  rw [show (10000 : Nat) = 9999 + 1 from rfl, run_equalIn_agg w 9999 53 _ _ (by kernel_rfl) (by kernel_rfl)]
  simp only [Program.fieldsOf, Tryz.underlying53]
  go_simp
  unfold rgQQ adE adQ
  (repeat' split) <;> simp_all
def neRg (x y : Operand) (a b : Value) : Sem Next := do
  let v ← (do eqGuard .neq 53 x y a b; binOp .neq 53 a b)
  pure (.value v)
@[go_sem ↓ high] theorem execOp_neRg' (ρ : Operand → Value) (dst : Option Tmp) (x y : Operand) (r ty : TypeId) (pos : String) (after : Array Edge) (guard : Option (Nat × Bool)) :
    execOp ρ ⟨dst, .binOp .neq 53 x y r, ty, pos, after, guard⟩ = neRg x y (ρ x) (ρ y) := rfl
@[go_sem high] theorem execOp_neRg (ρ : Operand → Value) (dst : Option Tmp) (x y : Operand) (r ty : TypeId) (pos : String) (after : Array Edge) (guard : Option (Nat × Bool)) :
    execOp ρ ⟨dst, .binOp .neq 53 x y r, ty, pos, after, guard⟩ = neRg x y (ρ x) (ρ y) := rfl
@[go_sem] theorem run_neRg (x y : Operand) (a b : Ad × Ad) (w : World) : (neRg x y (.agg (rgC a).toArray) (.agg (rgC b).toArray)).run Tryz.prog w = .ok (.value (.bool (!rgQQ a b))) w := by
  unfold neRg
  simp only [Sem.run_bind, run_neq_struct, rg_equalIn, run_eqGuard_agg _ _ _ _ _ _ _ Tryz.eqGuardType53, Result.andThen_ok, Sem.run_pure]
@[go_sem] theorem run_neRgE (x y : Operand) (a b : Ad × Ad) (w : World) : (neRg x y (.agg (eRg.enc a).toArray) (.agg (eRg.enc b).toArray)).run Tryz.prog w = .ok (.value (.bool (!rgQQ a b))) w := run_neRg x y a b w

set_option maxHeartbeats 2000000 in
theorem equalPf_any (A A' : Option Addr) (n m cap cap' : Nat) (xs ys : List Pf) (w : World) (hS : SlE ePf w A n cap xs) (hS' : SlE ePf w A' m cap' ys) (hn : n ≤ 1000000) (hm : m ≤ 1000000) :
    Calls Tryz.prog 14 #[.slice A n cap, .slice A' m cap'] w fun e w' => ∃ b, e = .returned (.bool b) ∧ (b = true ↔ xs = ys) ∧ Below w.heap.size w w' := by
  have hl := Lib.hid hS.1
  have hl' := Lib.hid hS'.1
  have hS := Lib.hid hS
  have hS' := Lib.hid hS'
  by_cases hnm : n = m
  · subst hnm
    go_enter Tryz.func14, Tryz.ntmps14
    go_wp2_with fail
    go_loopw [13] (fun i wr => ∃ k : Nat, k ≤ n ∧ i = .int .i64 k ∧ Hid (xs.take k = ys.take k) ∧ Below w.heap.size w wr) (fun i _ => n - (intOf i).toNat)
    case atStart => exact ⟨0, by omega, rfl, Lib.hid rfl, Below.refl _ _⟩
    case round =>
      obtain ⟨k, hk, rfl, htk, hbw⟩ := hrel
      by_cases hlt : k < n
      · obtain ⟨x, hx⟩ : ∃ x, xs[k]? = some x := ⟨xs[k]'(by have := hl.out; omega), List.getElem?_eq_getElem _⟩
        obtain ⟨y, hy⟩ : ∃ y, ys[k]? = some y := ⟨ys[k]'(by have := hl'.out; omega), List.getElem?_eq_getElem _⟩
        obtain ⟨g0, off, rfl, _, _⟩ := hS.out.at' hlt
        obtain ⟨g1, off', rfl, _, _⟩ := hS'.out.at' hlt
        have hlt' : (k : Int) < n := by omega
        have HQ := Lib.hid (pfQQ_iff x y)
        have hx := Lib.hid hx
        have hy := Lib.hid hy
        go_wp2_with fail
        refine wx_begin (none) [] (by kernel_rfl) (fun u0 hb0' hz0' => ?_)
        replace hbw := hbw.trans (hb0'.mono hbw.size)
        clear hb0' hz0'
        refine wx_pureZ 0 (some 16) (v := ?_) ?_ ?_; rotate_left; · (intro u; go_simp; try with_reducible rfl)
        try simp only [Act.put, gzD, gzE, gzF]
        refine wx_pureZ 1 (some 17) (v := ?_) ?_ ?_; rotate_left; · (intro u; go_simp; try with_reducible rfl)
        try simp only [Act.put, gzD, gzE, gzF]
        refine wx_pureZ 2 (some 18) (v := ?_) ?_ ?_; rotate_left; · (intro u; go_simp; try with_reducible rfl)
        try simp only [Act.put, gzD, gzE, gzF]
        refine wx_takeZ 3 (some 19) (v := ?_) ?_ ?_; rotate_left; · (intro u hu; have k1 := SlE.ld rowPf ((hS.out.below hbw).keepG hu) hx.out; have k2 := SlE.ld rowPf ((hS'.out.below hbw).keepG hu) hy.out; replace k1 : (ldT 40 (.pointer (some ⟨g0, off + k * 4, none⟩))).run Tryz.prog u = .ok (.value (.agg (ePf.enc x).toArray)) u := k1; replace k2 : (ldT 40 (.pointer (some ⟨g1, off' + k * 4, none⟩))).run Tryz.prog u = .ok (.value (.agg (ePf.enc y).toArray)) u := k2; go_simp; try with_reducible rfl)
        try simp only [Act.put, gzD, gzE, gzF]
        refine wx_pureZ 4 (some 20) (v := ?_) ?_ ?_; rotate_left; · (intro u; go_simp; try with_reducible rfl)
        try simp only [Act.put, gzD, gzE, gzF]
        refine wx_pureZ 5 (some 21) (v := ?_) ?_ ?_; rotate_left; · (intro u; go_simp; try with_reducible rfl)
        try simp only [Act.put, gzD, gzE, gzF]
        refine wx_pureZ 6 (some 22) (v := ?_) ?_ ?_; rotate_left; · (intro u; go_simp; try with_reducible rfl)
        try simp only [Act.put, gzD, gzE, gzF]
        refine wx_takeZ 7 (some 23) (v := ?_) ?_ ?_; rotate_left; · (intro u hu; have k1 := SlE.ld rowPf ((hS.out.below hbw).keepG hu) hx.out; have k2 := SlE.ld rowPf ((hS'.out.below hbw).keepG hu) hy.out; replace k1 : (ldT 40 (.pointer (some ⟨g0, off + k * 4, none⟩))).run Tryz.prog u = .ok (.value (.agg (ePf.enc x).toArray)) u := k1; replace k2 : (ldT 40 (.pointer (some ⟨g1, off' + k * 4, none⟩))).run Tryz.prog u = .ok (.value (.agg (ePf.enc y).toArray)) u := k2; go_simp; try with_reducible rfl)
        try simp only [Act.put, gzD, gzE, gzF]
        refine wx_pureZ 8 (some 24) (v := ?_) ?_ ?_; rotate_left; · (intro u; go_simp; try with_reducible rfl)
        try simp only [Act.put, gzD, gzE, gzF]
        refine wx_done (by kernel_rfl) ?_ _
        skip
        generalize pfQQ x y = q at *
        cases q
        · have hne := Lib.hid (show ¬ xs = ys from fun e => by
            have h1 := hx.out
            rw [e, hy.out] at h1
            injection h1 with h1
            have := HQ.out.2 h1.symm
            cases this)
          go_wp2_with fail
          go_ret
          exact ⟨false, rfl, ⟨fun h => by (first | exact h.elim | cases h), fun h => absurd h hne.out⟩, hbw⟩
        · have hxy := HQ.out.1 rfl
          have htk2 := Lib.hid (show xs.take (k + 1) = ys.take (k + 1) by rw [List.take_add_one, List.take_add_one, htk.out, hx.out, hy.out, hxy])
          clear hxy HQ
          go_wp2_with fail
          go_roundw
          case rel => exact ⟨k + 1, by omega, by go_num, htk2, hbw⟩
          case measure => simp [intOf]; omega
      · have he := Lib.hid (show xs = ys by
          have h1 := htk.out
          rwa [List.take_of_length_le (by have := hl.out; omega), List.take_of_length_le (by have := hl'.out; omega)] at h1)
        go_wp2_with fail
        go_ret
        exact ⟨true, rfl, ⟨fun _ => he.out, fun _ => rfl⟩, hbw⟩
  · have h0 : ((n : Int) == (m : Int)) = false := by rw [beq_eq_false_iff_ne]; omega
    have hne := Lib.hid (show ¬ xs = ys from fun e => by have h1 := hl.out; have h2 := hl'.out; rw [e] at h1; omega)
    clear hnm
    go_enter Tryz.func14, Tryz.ntmps14
    go_wp2_with fail
    go_ret
    exact ⟨false, rfl, ⟨fun h => by (first | exact h.elim | cases h), fun h => absurd h hne.out⟩, Below.refl _ _⟩


def scanF : Option Pf → List Pf → Int
  | _, [] => 0
  | o, p :: r => if pfE p ≠ 0 then pfE p else if (match o with | none => false | some q => decide (p.1.n ≤ q.1.n)) then 7 else scanF (some p) r
def prevOf (ps : List Pf) : Nat → Option Pf
  | 0 => none
  | k + 1 => ps[k]?
def ScanP (ps : List Pf) (k : Nat) : Prop := (∀ p ∈ ps.take k, p.R) ∧ (∀ j p q, j + 1 < k → ps[j]? = some p → ps[j + 1]? = some q → p.1.n < q.1.n) ∧ scanF none ps = scanF (prevOf ps k) (ps.drop k)
theorem scan_start (ps : List Pf) : ScanP ps 0 := ⟨fun p hp => by simp at hp, fun j p q h => by omega, rfl⟩
theorem scan_at {ps : List Pf} {k : Nat} {p : Pf} (h : ScanP ps k) (hp : ps[k]? = some p) : pfE p ≠ 0 → scanF none ps = pfE p := fun hE => by
  obtain ⟨hk, hpe⟩ := List.getElem?_eq_some_iff.1 hp
  rw [h.2.2, List.drop_eq_getElem_cons hk, hpe]
  unfold scanF
  rw [if_pos hE]
theorem take_R {ps : List Pf} {k : Nat} {p : Pf} (h : ∀ x ∈ ps.take k, x.R) (hp : ps[k]? = some p) (hpR : p.R) : ∀ x ∈ ps.take (k + 1), x.R := by
  intro x hx
  rw [List.take_add_one, hp] at hx
  rcases List.mem_append.1 hx with hx | hx
  · exact h x hx
  · simp at hx; rw [hx]; exact hpR
theorem scanP_zero {ps : List Pf} {p : Pf} (h : ScanP ps 0) (hp : ps[0]? = some p) (hpR : p.R) : ScanP ps 1 := by
  refine ⟨take_R h.1 hp hpR, fun j p q hj => by omega, ?_⟩
  obtain ⟨hk, hpe⟩ := List.getElem?_eq_some_iff.1 hp
  rw [h.2.2, List.drop_eq_getElem_cons hk, hpe]
  show scanF none (p :: ps.drop 1) = scanF ps[0]? (ps.drop 1)
  rw [hp, scanF, if_neg (by rw [(pfE_iff hpR.1.1).2 hpR]; decide), if_neg (by decide)]
theorem scan_next {ps : List Pf} {k : Nat} {p q : Pf} (h : ScanP ps (k + 1)) (hq : ps[k]? = some q) (hp : ps[k + 1]? = some p) (hpR : p.R) : (q.1.n < p.1.n → ScanP ps (k + 2)) ∧ (¬ q.1.n < p.1.n → scanF none ps = 7) := by
  obtain ⟨hk, hpe⟩ := List.getElem?_eq_some_iff.1 hp
  have e : scanF none ps = if decide (p.1.n ≤ q.1.n) then 7 else scanF (some p) (ps.drop (k + 2)) := by
    rw [h.2.2, List.drop_eq_getElem_cons hk, hpe]
    show scanF ps[k]? (p :: ps.drop (k + 2)) = _
    rw [hq, scanF, if_neg (by rw [(pfE_iff hpR.1.1).2 hpR]; decide)]
  refine ⟨fun hlt => ⟨take_R h.1 hp hpR, fun j x y hj hx hy => ?_, ?_⟩, fun hn => ?_⟩
  · by_cases hjk : j + 1 < k + 1
    · exact h.2.1 j x y hjk hx hy
    · have : j = k := by omega
      subst this
      rw [hq] at hx; rw [hp] at hy
      cases hx; cases hy; exact hlt
  · rw [e, if_neg (by rw [decide_eq_true_eq]; omega)]
    show _ = scanF ps[k + 1]? _
    rw [hp]
  · rw [e, if_pos (by rw [decide_eq_true_eq]; omega)]
theorem scan_end {ps : List Pf} {k : Nat} (h : ScanP ps k) (hk : ps.length ≤ k) : (∀ p ∈ ps, p.R) ∧ (∀ j p q, ps[j]? = some p → ps[j + 1]? = some q → p.1.n < q.1.n) ∧ scanF none ps = 0 := by
  obtain ⟨h1, h2, h3⟩ := h
  rw [List.take_of_length_le hk] at h1
  refine ⟨h1, fun j p q hp hq => h2 j p q ?_ hp hq, ?_⟩
  · have := (List.getElem?_eq_some_iff.1 hq).1; omega
  · rw [h3, List.drop_of_length_le hk]; cases prevOf ps k <;> rfl
theorem least_get : ∀ (l : List Bk), LeastL l ↔ ∀ j p q, l[j]? = some p → l[j + 1]? = some q → Apart p q
  | [] => ⟨fun _ j p q h => by simp at h, fun _ => trivial⟩
  | [x] => ⟨fun _ j p q _ h => by simp at h, fun _ => trivial⟩
  | x :: y :: r => by
    have ih := least_get (y :: r)
    constructor
    · rintro ⟨h1, h2⟩ j p q hp hq
      cases j with
      | zero => simp at hp hq; subst hp; subst hq; exact h1
      | succ j => exact ih.1 h2 j p q (by simpa using hp) (by simpa using hq)
    · intro h
      exact ⟨h 0 x y rfl rfl, ih.2 fun j p q hp hq => h (j + 1) p q (by simpa using hp) (by simpa using hq)⟩
open Classical in
noncomputable def setF (ps : List Pf) : Int := if scanF none ps ≠ 0 then scanF none ps else if LeastL (ps.map blk) then 0 else 16

theorem falls_of {ps : List Pf} {ys : List (Ad × Ad)} (hR : ∀ p ∈ ps, p.R) (hj : Joined ys (ps.map rgP)) : Falls (ys.reverse.map iv) (ps.map blk) ∧ rowsOf (ys.reverse.map iv) = ys.map rowA := by
  refine ⟨⟨hj.1, fun k => ?_⟩, ?_⟩
  · rw [← map_iv_rgP ps hR, List.map_reverse, inP_reverse]
    exact hj.2.1 k
  · unfold rowsOf
    rw [← List.map_reverse (l := ys.reverse), List.reverse_reverse, List.map_map]
    apply List.map_congr_left
    intro x _
    show (((x.1.n : Int)).toNat, ((x.2.n : Int) + 1).toNat) = (x.1.n, x.2.n + 1)
    rw [Int.toNat_natCast]
    congr 1
theorem blks_ok {ps : List Pf} (hR : ∀ p ∈ ps, p.R) : AlL (ps.map blk) ∧ ∀ b ∈ ps.map blk, OkB b := by
  constructor
  · intro b hb
    obtain ⟨p, hp, rfl⟩ := List.mem_map.1 hb
    exact (hR p hp).blk_ok.1
  · intro b hb
    obtain ⟨p, hp, rfl⟩ := List.mem_map.1 hb
    exact (hR p hp).blk_ok.2
theorem cuts_ok {l : List (Nat × Nat)} (h : ∀ x ∈ l, Row x) : ∀ b ∈ cuts l, Al b ∧ OkB b := by
  intro b hb
  obtain ⟨x, hx, h1, h2, h3⟩ := cuts_in l h b hb
  refine ⟨cuts_al l h b hb, ?_⟩
  have := (h x hx).2
  unfold OkB
  unfold OkX at *
  omega
theorem rows_R {ys : List (Ad × Ad)} (h : ∀ y ∈ ys, RgR y) : ∀ x ∈ ys.map rowA, Row x := by
  intro x hx
  obtain ⟨y, hy, rfl⟩ := List.mem_map.1 hx
  exact rowA_row (h y hy)
theorem map_blk_pfOf : ∀ (l : List Bk), (∀ b ∈ l, OkB b) → (l.map pfOf).map blk = l
  | [], _ => rfl
  | b :: r, h => by rw [List.map_cons, List.map_cons, blk_pfOf (h b List.mem_cons_self), map_blk_pfOf r (fun x hx => h x (List.mem_cons_of_mem _ hx))]
theorem map_pfOf_blk : ∀ (l : List Pf), (∀ p ∈ l, p.R) → (l.map blk).map pfOf = l
  | [], _ => rfl
  | b :: r, h => by rw [List.map_cons, List.map_cons, pfOf_blk (h b List.mem_cons_self), map_pfOf_blk r (fun x hx => h x (List.mem_cons_of_mem _ hx))]
theorem pfsOf_R {ys : List (Ad × Ad)} (h : ∀ y ∈ ys, RgR y) : ∀ p ∈ pfsOf (ys.map rowA), p.R := by
  intro p hp
  obtain ⟨b, hb, rfl⟩ := List.mem_map.1 hp
  obtain ⟨h1, h2⟩ := cuts_ok (rows_R h) b hb
  exact pfOf_R h1 h2
theorem leastP_same {ps : List Pf} {ys : List (Ad × Ad)} (hR : ∀ p ∈ ps, p.R) (hj : Joined ys (ps.map rgP)) : (pfsOf (ys.map rowA) = ps ↔ LeastL (ps.map blk)) ∧ (pfsOf (ys.map rowA)).length ≤ ps.length := by
  obtain ⟨h1, h2⟩ := falls_of hR hj
  obtain ⟨h3, h4⟩ := blks_ok hR
  have h5 := least_iff h1 h3 h4
  have h6 := cuts_le h1 h3 h4
  rw [h2] at h5 h6
  constructor
  · rw [← h5]
    constructor
    · intro h
      have := congrArg (List.map blk) h
      unfold pfsOf at this
      rwa [map_blk_pfOf _ (fun b hb => (cuts_ok (rows_R hj.2.2) b hb).2)] at this
    · intro h
      unfold pfsOf
      rw [h, map_pfOf_blk ps hR]
  · unfold pfsOf
    rw [List.length_map] at h6 ⊢
    exact h6
theorem compare_n (a b : Ad) (w : World) (ha : a.U) (hb : b.U) : Calls Tryz.prog 38 #[adA a, adA b] w (GivesV (.int .i64 (cmpN a.n b.n)) w) := by
  have := compare_any a.s a.hi a.lo b.s b.hi b.lo w ha.1.1 ha.1.2 ha.2.1 ha.2.2 hb.1.1 hb.1.2 hb.2.1 hb.2.2
  rwa [show cmpW (num a.hi a.lo) a.s (num b.hi b.lo) b.s = cmpN a.n b.n from cmpW_cmpN ha hb] at this


def Val (m : Nat) : Prop := m < 2 ^ 32 ∨ (2 ^ 128 ≤ m ∧ m < 2 ^ 129)
def InA (xs : List (Ad × Ad)) (m : Nat) : Prop := ∃ x ∈ xs, x.1.n ≤ m ∧ m ≤ x.2.n
theorem inA_iff (xs : List (Ad × Ad)) (m : Nat) : InP (xs.map iv) (m : Int) ↔ InA xs m := by
  unfold InP InA
  constructor
  · rintro ⟨p, hp, h1, h2⟩
    obtain ⟨x, hx, rfl⟩ := List.mem_map.1 hp
    have h1' : (x.1.n : Int) ≤ m := h1
    have h2' : (m : Int) ≤ x.2.n := h2
    exact ⟨x, hx, by omega, by omega⟩
  · rintro ⟨x, hx, h1, h2⟩
    refine ⟨iv x, List.mem_map_of_mem hx, ?_, ?_⟩
    · show (x.1.n : Int) ≤ m; omega
    · show (m : Int) ≤ x.2.n; omega
theorem inP_pos {xs : List (Ad × Ad)} {k : Int} (h : InP (xs.map iv) k) : 0 ≤ k := by
  obtain ⟨p, hp, h1, _⟩ := h
  obtain ⟨x, _, rfl⟩ := List.mem_map.1 hp
  have : (x.1.n : Int) ≤ k := h1
  omega
theorem inA_nil (m : Nat) : ¬ InA [] m := by rintro ⟨x, hx, _⟩; cases hx
theorem inA_cons (x : Ad × Ad) (xs : List (Ad × Ad)) (m : Nat) : InA (x :: xs) m ↔ (x.1.n ≤ m ∧ m ≤ x.2.n) ∨ InA xs m := by
  unfold InA
  constructor
  · rintro ⟨y, hy, h⟩
    rcases List.mem_cons.1 hy with rfl | hy
    · exact .inl h
    · exact .inr ⟨y, hy, h⟩
  · rintro (h | ⟨y, hy, h⟩)
    · exact ⟨x, List.mem_cons_self, h⟩
    · exact ⟨y, List.mem_cons_of_mem _ hy, h⟩
theorem inA_append (xs ys : List (Ad × Ad)) (m : Nat) : InA (xs ++ ys) m ↔ InA xs m ∨ InA ys m := by
  unfold InA
  constructor
  · rintro ⟨y, hy, h⟩
    rcases List.mem_append.1 hy with hy | hy
    · exact .inl ⟨y, hy, h⟩
    · exact .inr ⟨y, hy, h⟩
  · rintro (⟨y, hy, h⟩ | ⟨y, hy, h⟩)
    · exact ⟨y, List.mem_append_left _ hy, h⟩
    · exact ⟨y, List.mem_append_right _ hy, h⟩
theorem inA_val {xs : List (Ad × Ad)} (h : ∀ x ∈ xs, RgR x) {m : Nat} (hm : InA xs m) : Val m := by
  obtain ⟨x, hx, h1, h2⟩ := hm
  obtain ⟨r1, r2, r3, r4⟩ := h x hx
  rcases r1.six with ⟨a1, a2, a3⟩ | ⟨a1, a2, a3⟩ <;> rcases r2.six with ⟨b1, b2, b3⟩ | ⟨b1, b2, b3⟩
  · exact .inl (by omega)
  · rw [a1, b1] at r3; cases r3
  · rw [a1, b1] at r3; cases r3
  · exact .inr (by omega)

def Tells (ys : List (Ad × Ad)) (P : Nat → Prop) : Prop := ys.Pairwise (fun x y => x.2.n + 1 < y.1.n) ∧ (∀ m, InA ys m ↔ P m) ∧ ∀ y ∈ ys, RgR y
theorem rows_iv (ys : List (Ad × Ad)) : rowsOf (ys.reverse.map iv) = ys.map rowA := by
  unfold rowsOf
  rw [← List.map_reverse (l := ys.reverse), List.reverse_reverse, List.map_map]
  apply List.map_congr_left
  intro x _
  show (((x.1.n : Int)).toNat, ((x.2.n : Int) + 1).toNat) = (x.1.n, x.2.n + 1)
  rw [Int.toNat_natCast]
  congr 1
theorem toP_rowA (ys : List (Ad × Ad)) : (ys.map rowA).map toP = ys.map iv := by
  rw [List.map_map]
  apply List.map_congr_left
  intro x _
  show ((x.1.n : Int), ((x.2.n + 1 : Nat) : Int) - 1) = ((x.1.n : Int), (x.2.n : Int))
  congr 1
  omega
theorem pairs_rowA {ys : List (Ad × Ad)} : (ys.map rowA).Pairwise (fun x y => x.2 < y.1) ↔ ys.Pairwise (fun x y => x.2.n + 1 < y.1.n) := by
  rw [List.pairwise_map]; rfl
theorem Joined.tells {ys xs : List (Ad × Ad)} (h : Joined ys xs) : Tells ys (InA xs) := by
  refine ⟨?_, fun m => ?_, h.2.2⟩
  · have h1 := canR_pairs _ _ h.1 (fun p hp => by
      obtain ⟨x, _, rfl⟩ := List.mem_map.1 hp
      show (0 : Int) ≤ (x.1.n : Int)
      omega)
    rw [rows_iv] at h1
    exact pairs_rowA.1 h1
  · rw [← inA_iff, ← inA_iff]; exact h.2.1 m
theorem Tells.joined {ys xs : List (Ad × Ad)} (h : Tells ys (InA xs)) : Joined ys xs := by
  refine ⟨?_, fun k => ?_, h.2.2⟩
  · have h1 := rows_can (ys.map rowA) (fun x hx => by
      obtain ⟨y, hy, rfl⟩ := List.mem_map.1 hx
      exact rowA_row (h.2.2 y hy)) (pairs_rowA.2 h.1)
    rw [toP_rowA, ← List.map_reverse] at h1
    exact h1
  · constructor
    · intro hk
      obtain ⟨m, rfl⟩ := Int.eq_ofNat_of_zero_le (inP_pos hk)
      exact (inA_iff _ _).2 ((h.2.1 m).1 ((inA_iff _ _).1 hk))
    · intro hk
      obtain ⟨m, rfl⟩ := Int.eq_ofNat_of_zero_le (inP_pos hk)
      exact (inA_iff _ _).2 ((h.2.1 m).2 ((inA_iff _ _).1 hk))
theorem Tells.iff {ys : List (Ad × Ad)} {P Q : Nat → Prop} (h : Tells ys P) (he : ∀ m, P m ↔ Q m) : Tells ys Q := ⟨h.1, fun m => (h.2.1 m).trans (he m), h.2.2⟩
theorem Tells.self {ys : List (Ad × Ad)} {P : Nat → Prop} (h : Tells ys P) : Tells ys (InA ys) := ⟨h.1, fun _ => Iff.rfl, h.2.2⟩
theorem Tells.unique {ys zs : List (Ad × Ad)} {P Q : Nat → Prop} (h : Tells ys P) (h' : Tells zs Q) (he : ∀ m, P m ↔ Q m) : ys = zs := by
  refine Joined.unique h.self.joined h'.self.joined (fun k => ?_)
  constructor
  · intro hk
    obtain ⟨m, rfl⟩ := Int.eq_ofNat_of_zero_le (inP_pos hk)
    exact (inA_iff _ _).2 ((h'.2.1 m).2 ((he m).1 ((h.2.1 m).1 ((inA_iff _ _).1 hk))))
  · intro hk
    obtain ⟨m, rfl⟩ := Int.eq_ofNat_of_zero_le (inP_pos hk)
    exact (inA_iff _ _).2 ((h.2.1 m).2 ((he m).2 ((h'.2.1 m).1 ((inA_iff _ _).1 hk))))

theorem apart_two : ∀ {l : List (Ad × Ad)}, l.Pairwise (fun x y => x.2.n + 1 < y.1.n) → ∀ {x y : Ad × Ad}, x ∈ l → y ∈ l → x ≠ y → x.2.n + 1 < y.1.n ∨ y.2.n + 1 < x.1.n
  | [], _, _, _, hx, _, _ => by cases hx
  | z :: t, hp, x, y, hx, hy, hne => by
    have hp' := List.pairwise_cons.1 hp
    rcases List.mem_cons.1 hx with rfl | hx'
    · rcases List.mem_cons.1 hy with rfl | hy'
      · exact absurd rfl hne
      · exact .inl (hp'.1 y hy')
    · rcases List.mem_cons.1 hy with rfl | hy'
      · exact .inr (hp'.1 x hx')
      · exact apart_two hp'.2 hx' hy' hne
theorem Tells.one {ys : List (Ad × Ad)} {P : Nat → Prop} (h : Tells ys P) : ∀ (n a : Nat), (∀ m, a ≤ m → m ≤ a + n → P m) → ∃ y ∈ ys, y.1.n ≤ a ∧ a + n ≤ y.2.n
  | 0, a, ha => (h.2.1 a).2 (ha a (Nat.le_refl _) (Nat.le_refl _))
  | n + 1, a, ha => by
    obtain ⟨x, hx, h1, h2⟩ := h.one n a (fun m hm1 hm2 => ha m hm1 (by omega))
    obtain ⟨y, hy, h3, h4⟩ := (h.2.1 (a + (n + 1))).2 (ha _ (by omega) (Nat.le_refl _))
    by_cases he : a + (n + 1) ≤ x.2.n
    · exact ⟨x, hx, h1, he⟩
    · exfalso
      have hne : x ≠ y := by rintro rfl; omega
      have hyr := (h.2.2 y hy).2.2.2
      rcases apart_two h.1 hx hy hne with k | k <;> omega
instance : DecidableEq Ad := fun a b => decidable_of_iff (a.s = b.s ∧ a.hi = b.hi ∧ a.lo = b.lo) (by cases a; cases b; simp)

theorem dy_in {a b i j t : Nat} (ha : 2 ^ i ∣ a) (hb : 2 ^ j ∣ b) (hj : j ≤ i) (h1 : a ≤ t) (h2 : t < a + 2 ^ i) (h3 : b ≤ t) (h4 : t < b + 2 ^ j) : a ≤ b ∧ b + 2 ^ j ≤ a + 2 ^ i := by
  obtain ⟨r, hr⟩ := Nat.pow_dvd_pow 2 hj
  obtain ⟨u, hu⟩ := Nat.dvd_trans (Nat.pow_dvd_pow 2 hj) ha
  obtain ⟨v, hv⟩ := hb
  have hp := Nat.two_pow_pos j
  generalize 2 ^ j = J at *
  generalize 2 ^ i = I at *
  subst hr hu hv
  have k1 : u ≤ v := by
    rcases Nat.lt_or_ge v u with h | h
    · have := Nat.mul_le_mul_left J (Nat.succ_le_of_lt h)
      rw [Nat.mul_succ] at this
      omega
    · exact h
  have k2 : v < u + r := by
    rcases Nat.lt_or_ge v (u + r) with h | h
    · exact h
    · have := Nat.mul_le_mul_left J h
      rw [Nat.mul_add] at this
      omega
  have k3 := Nat.mul_le_mul_left J k1
  have k4 := Nat.mul_le_mul_left J (Nat.succ_le_of_lt k2)
  rw [Nat.mul_succ, Nat.mul_add] at k4
  exact ⟨k3, k4⟩
def buddy (q : Bk) (k : Nat) : Bk := ((if q.1 / 2 ^ k % 2 = 0 then q.1 / 2 ^ k + 1 else q.1 / 2 ^ k - 1) * 2 ^ k, k)
def budL (qs : List Bk) : List Bk := qs.flatMap fun q => (List.range 128).map fun k => buddy q k
theorem budL_len : ∀ qs : List Bk, (budL qs).length = qs.length * 128
  | [] => rfl
  | q :: r => by
    have e : budL (q :: r) = ((List.range 128).map fun k => buddy q k) ++ budL r := rfl
    rw [e, List.length_append, budL_len r, List.length_map, List.length_range, List.length_cons]
    omega
theorem mem_budL {qs : List Bk} {q : Bk} (h : q ∈ qs) {k : Nat} (hk : k < 128) : buddy q k ∈ budL qs :=
  List.mem_flatMap.2 ⟨q, h, List.mem_map.2 ⟨k, List.mem_range.2 hk, rfl⟩⟩
def InB (b : Bk) (m : Nat) : Prop := b.1 ≤ m ∧ m < b.1 + 2 ^ b.2
theorem buddy_is {q : Bk} {c m k : Nat} (hq : 2 ^ q.2 ∣ q.1) (hqk : q.2 ≤ k) (hc : 2 ^ k ∣ c) (hm : InB q m) (hp : m / 2 ^ (k + 1) = c / 2 ^ (k + 1)) (hn : ¬ (c ≤ m ∧ m < c + 2 ^ k)) : buddy q k = (c, k) := by
  have hpk := Nat.two_pow_pos k
  have hA : q.1 / 2 ^ k = m / 2 ^ k := by
    have h1 := dy_in (a := q.1 / 2 ^ k * 2 ^ k) (b := q.1) (i := k) (j := q.2) (t := q.1) ⟨_, Nat.mul_comm _ _⟩ hq hqk (Nat.div_mul_le_self _ _) (by have := Nat.lt_div_mul_add (a := q.1) hpk; omega) (Nat.le_refl _) (by have := Nat.two_pow_pos q.2; omega)
    have h2 : m < (q.1 / 2 ^ k + 1) * 2 ^ k := by rw [Nat.add_mul, Nat.one_mul]; have := hm.2; omega
    have h3 : q.1 / 2 ^ k * 2 ^ k ≤ m := Nat.le_trans h1.1 hm.1
    exact Nat.le_antisymm ((Nat.le_div_iff_mul_le hpk).2 h3) (Nat.le_of_lt_succ ((Nat.div_lt_iff_lt_mul hpk).2 h2))
  obtain ⟨C, hC⟩ := hc
  have hcd : c / 2 ^ k = C := by rw [hC, Nat.mul_div_cancel_left _ hpk]
  rw [Nat.pow_succ, ← Nat.div_div_eq_div_mul, ← Nat.div_div_eq_div_mul, hcd] at hp
  have hne : m / 2 ^ k ≠ C := by
    intro e
    apply hn
    have h1 := Nat.div_mul_le_self m (2 ^ k)
    have h2 := Nat.lt_div_mul_add (a := m) hpk
    rw [e, Nat.mul_comm, ← hC] at h1
    rw [e, Nat.mul_comm, ← hC] at h2
    exact ⟨h1, h2⟩
  unfold buddy
  rw [hA]
  generalize m / 2 ^ k = A at *
  have e : (if A % 2 = 0 then A + 1 else A - 1) = C := by
    by_cases h : A % 2 = 0
    · rw [if_pos h]; omega
    · rw [if_neg h]; omega
  rw [e, hC, Nat.mul_comm]
def wholes : List Bk := [(0, 32), (2 ^ 128, 128)]
theorem blocks_le {ys : List (Ad × Ad)} {P : Nat → Prop} (h : Tells ys P) (es qs : List Bk) (hes : AlL es) (hqs : AlL qs)
    (hk : ∀ m m', P m → Val m' → ¬ P m' → (∃ a ∈ es, InB a m ∧ ¬ InB a m') ∨ (∃ q ∈ qs, ¬ InB q m ∧ InB q m')) :
    (cuts (ys.map rowA)).length ≤ es.length + qs.length * 128 + 2 := by
  have hr := rows_R h.2.2
  have hpr := pairs_rowA.2 h.1
  refine Nat.le_trans (count_le _ (es ++ budL qs ++ wholes) (least_pairs _ (cuts_least _ hr hpr)) (fun c hc => ?_)) (by
    rw [List.length_append, List.length_append, budL_len]; exact Nat.le_refl _)
  obtain ⟨x, hx, h1, h2, hcx⟩ := cuts_in _ hr c hc
  obtain ⟨y, hy, rfl⟩ := List.mem_map.1 hx
  obtain ⟨hal, hok⟩ := cuts_ok hr c hc
  have hpc := Nat.two_pow_pos c.2
  have h1' : y.1.n ≤ c.1 := h1
  have h2' : c.1 + 2 ^ c.2 ≤ y.2.n + 1 := h2
  have hPc : ∀ m, c.1 ≤ m → m < c.1 + 2 ^ c.2 → P m := fun m hm1 hm2 => (h.2.1 m).1 ⟨y, hy, by omega, by omega⟩
  have fin : ∀ b : Bk, b ∈ es ++ budL qs ++ wholes → c.1 ≤ b.1 → b.1 + 2 ^ b.2 ≤ c.1 + 2 ^ c.2 → ∃ b ∈ es ++ budL qs ++ wholes, c.1 ≤ b.1 ∧ b.1 + 2 ^ b.2 ≤ c.1 + 2 ^ c.2 := fun b hb k1 k2 => ⟨b, hb, k1, k2⟩
  by_cases hw : c ∈ wholes
  · exact fin c (List.mem_append_right _ hw) (Nat.le_refl _) (Nat.le_refl _)
  have hw1 : c ≠ (0, 32) := fun e => hw (by rw [e]; exact List.mem_cons_self)
  have hw2 : c ≠ (2 ^ 128, 128) := fun e => hw (by rw [e]; exact List.mem_cons_of_mem _ List.mem_cons_self)
  obtain ⟨p1, hp1⟩ : ∃ p1, p1 = c.1 / 2 ^ (c.2 + 1) * 2 ^ (c.2 + 1) := ⟨_, rfl⟩
  have hpp := Nat.two_pow_pos (c.2 + 1)
  have hps : 2 ^ (c.2 + 1) = 2 * 2 ^ c.2 := by rw [Nat.pow_succ, Nat.mul_comm]
  have hpd : 2 ^ (c.2 + 1) ∣ p1 := ⟨_, by rw [hp1, Nat.mul_comm]⟩
  have hple : p1 ≤ c.1 := by rw [hp1]; exact Nat.div_mul_le_self _ _
  have hplt : c.1 < p1 + 2 ^ (c.2 + 1) := by rw [hp1]; exact Nat.lt_div_mul_add hpp
  have hsmall : c.2 < 128 ∧ ∀ m, p1 ≤ m → m < p1 + 2 ^ (c.2 + 1) → Val m := by
    obtain ⟨_, ho⟩ := okB_small hok
    have hok' : OkX c.1 (c.1 + 2 ^ c.2) := hok
    rcases ho with ⟨o1, o2⟩ | ⟨o1, o2⟩
    · have hlt : c.2 < 32 := by
        rcases Nat.lt_or_ge c.2 32 with h | h
        · exact h
        · exfalso
          have e : c.2 = 32 := by omega
          have e1 : c.1 = 0 := by
            have := aligned_top (V := c.1) (k := 32) (N := 32) (by rw [← e]; exact hal) (Nat.le_refl _) o1
            omega
          exact hw1 (Prod.ext e1 e)
      refine ⟨by omega, fun m _ hm => .inl ?_⟩
      have := aligned_top (V := p1) (k := c.2 + 1) (N := 32) hpd (by omega) (by omega)
      omega
    · have hlt : c.2 < 128 := by
        rcases Nat.lt_or_ge c.2 128 with h | h
        · exact h
        · exfalso
          have e : c.2 = 128 := by omega
          have e1 : c.1 = 2 ^ 128 := by
            rcases hok' with k | ⟨_, k⟩
            · omega
            · rw [e] at k; omega
          exact hw2 (Prod.ext e1 e)
      refine ⟨hlt, fun m hm1 hm => .inr ⟨?_, ?_⟩⟩
      · obtain ⟨r, hr⟩ := Nat.pow_dvd_pow 2 (show c.2 + 1 ≤ 128 by omega)
        have h3 : r ≤ c.1 / 2 ^ (c.2 + 1) := (Nat.le_div_iff_mul_le hpp).2 (by rw [Nat.mul_comm, ← hr]; exact o1)
        have h4 := Nat.mul_le_mul_right (2 ^ (c.2 + 1)) h3
        rw [← hp1, Nat.mul_comm, ← hr] at h4
        omega
      · have hcl : c.1 < 2 ^ 129 := by
          rcases hok' with k | ⟨_, k⟩
          · omega
          · omega
        have := aligned_top (V := p1) (k := c.2 + 1) (N := 129) hpd (by omega) (by omega)
        omega
  obtain ⟨hk128, hpv⟩ := hsmall
  have hnot : ∃ m, (p1 ≤ m ∧ m < p1 + 2 ^ (c.2 + 1)) ∧ ¬ P m := by
    apply Classical.byContradiction
    intro hno
    have hall : ∀ m, p1 ≤ m → m ≤ p1 + (2 ^ (c.2 + 1) - 1) → P m := fun m hm1 hm2 => Classical.byContradiction fun hc => hno ⟨m, ⟨hm1, by omega⟩, hc⟩
    obtain ⟨z, hz, h3, h4⟩ := h.one _ p1 hall
    have hzy : y = z := by
      by_cases e : y = z
      · exact e
      · rcases apart_two h.1 hy hz e with k | k <;> omega
    subst hzy
    have := cut_max (rowA y).2 _ (rowA y).1 (Nat.le_refl _) (hr _ hx).2.small c hcx (p1, c.2 + 1) hpd h3 (by show p1 + 2 ^ (c.2 + 1) ≤ y.2.n + 1; omega) hple hplt
    omega
  obtain ⟨m', ⟨hm1, hm2⟩, hm3⟩ := hnot
  rcases hk c.1 m' (hPc _ (Nat.le_refl _) (by omega)) (hpv m' hm1 hm2) hm3 with ⟨a, ha, h3, h4⟩ | ⟨q, hq, h3, h4⟩
  · have hle : a.2 ≤ c.2 := by
      rcases Nat.lt_or_ge c.2 a.2 with hlt | h
      · exfalso
        have := dy_in (hes a ha) hpd hlt h3.1 h3.2 hple hplt
        exact h4 ⟨by omega, by omega⟩
      · exact h
    have := dy_in hal (hes a ha) hle (Nat.le_refl _) (by omega) h3.1 h3.2
    exact fin a (List.mem_append_left _ (List.mem_append_left _ ha)) this.1 this.2
  · have hle : q.2 ≤ c.2 := by
      rcases Nat.lt_or_ge c.2 q.2 with hlt | h
      · exfalso
        have := dy_in (hqs q hq) hpd hlt h4.1 h4.2 hm1 hm2
        exact h3 ⟨by omega, by omega⟩
      · exact h
    have hdm : m' / 2 ^ (c.2 + 1) = c.1 / 2 ^ (c.2 + 1) := by
      have k1 : c.1 / 2 ^ (c.2 + 1) ≤ m' / 2 ^ (c.2 + 1) := (Nat.le_div_iff_mul_le hpp).2 (by rw [← hp1]; exact hm1)
      have k2 : m' / 2 ^ (c.2 + 1) < c.1 / 2 ^ (c.2 + 1) + 1 := (Nat.div_lt_iff_lt_mul hpp).2 (by rw [Nat.add_mul, Nat.one_mul, ← hp1]; exact hm2)
      omega
    have hb := buddy_is (hqs q hq) hle hal h4 hdm (fun hc => hm3 (hPc m' hc.1 hc.2))
    exact fin (buddy q c.2) (List.mem_append_left _ (List.mem_append_right _ (mem_budL hq hk128))) (by rw [hb]; exact Nat.le_refl _) (by rw [hb]; exact Nat.le_refl _)

theorem ad_fam {a : Ad} (h : a.R) : s2n a.s ≤ a.n ∧ a.n ≤ topN a.s := by
  refine ⟨?_, h.le_top⟩
  unfold Ad.n
  omega
theorem fam_of {a : Ad} (h : a.R) {s : Bool} (h1 : s2n s ≤ a.n) (h2 : a.n ≤ topN s) : a.s = s := by
  obtain ⟨k1, k2⟩ := ad_fam h
  revert h1 h2 k1 k2
  generalize a.n = m
  cases a.s <;> cases s <;> simp only [s2n_true, s2n_false, topN_true, topN_false] <;> intro h1 h2 k1 k2
  all_goals first | rfl | trivial | (exfalso; omega)
theorem fam_val {s : Bool} {m : Nat} (h1 : s2n s ≤ m) (h2 : m ≤ topN s) : Val m := by
  unfold Val
  revert h1 h2
  cases s <;> simp only [s2n_true, s2n_false, topN_true, topN_false] <;> intro h1 h2 <;> omega
theorem val_fam {m : Nat} (h : Val m) : ∃ s, s2n s ≤ m ∧ m ≤ topN s := by
  rcases h with h | h
  · exact ⟨false, by simp only [s2n_false, topN_false]; omega⟩
  · exact ⟨true, by simp only [s2n_true, topN_true]; omega⟩
theorem fam_one {s t : Bool} {m : Nat} (h1 : s2n s ≤ m) (h2 : m ≤ topN s) (h3 : s2n t ≤ m) (h4 : m ≤ topN t) : s = t := by
  revert h1 h2 h3 h4
  cases s <;> cases t <;> simp only [s2n_true, s2n_false, topN_true, topN_false] <;> intro h1 h2 h3 h4
  all_goals first | rfl | trivial | (exfalso; omega)
theorem adOf_fam {s : Bool} {m : Nat} (h1 : s2n s ≤ m) (h2 : m ≤ topN s) : (adOf m).R ∧ (adOf m).n = m ∧ (adOf m).s = s := by
  have hv := fam_val h1 h2
  have hR := adOf_R hv
  have hn : (adOf m).n = m := adOf_n (by rcases hv with h | h <;> omega)
  exact ⟨hR, hn, fam_of hR (by rw [hn]; exact h1) (by rw [hn]; exact h2)⟩
theorem rg_fam {x : Ad × Ad} (h : RgR x) : s2n x.1.s ≤ x.1.n ∧ x.2.n ≤ topN x.1.s := ⟨(ad_fam h.1).1, by rw [h.2.2.1]; exact (ad_fam h.2.1).2⟩
theorem rg_fam_of {x : Ad × Ad} (h : RgR x) {s : Bool} {m : Nat} (h1 : s2n s ≤ m) (h2 : m ≤ topN s) (h3 : x.1.n ≤ m) (h4 : m ≤ x.2.n) : x.1.s = s := by
  obtain ⟨k1, k2⟩ := rg_fam h
  exact fam_one (by omega) (by omega) h1 h2
theorem adOf_rg {s : Bool} {a b : Nat} (h1 : s2n s ≤ a) (h2 : a ≤ b) (h3 : b ≤ topN s) : RgR (adOf a, adOf b) ∧ (adOf a).n = a ∧ (adOf b).n = b := by
  obtain ⟨p1, p2, p3⟩ := adOf_fam h1 (by omega)
  obtain ⟨q1, q2, q3⟩ := adOf_fam (s := s) (m := b) (by omega) h3
  exact ⟨⟨p1, q1, by rw [p3, q3], by rw [p2, q2]; exact h2⟩, p2, q2⟩

def hasB (xs : List (Ad × Ad)) (m : Nat) : Bool := xs.any fun x => decide (x.1.n ≤ m ∧ m ≤ x.2.n)
theorem hasB_iff (xs : List (Ad × Ad)) (m : Nat) : hasB xs m = true ↔ InA xs m := by
  unfold hasB InA
  rw [List.any_eq_true]
  constructor
  · rintro ⟨x, hx, h⟩; exact ⟨x, hx, of_decide_eq_true h⟩
  · rintro ⟨x, hx, h⟩; exact ⟨x, hx, decide_eq_true h⟩

structure Cut (cs : List Ad) : Prop where
  sorted : cs.Pairwise (fun a b => a.n < b.n)
  right : ∀ a ∈ cs, a.R
  base : ∀ s : Bool, ∃ a ∈ cs, a.n = s2n s
def lastC (cs : List Ad) (i : Nat) (a : Ad) : Nat := match cs[i + 1]? with
  | some b => if b.s = a.s then b.n - 1 else topN a.s
  | none => topN a.s
theorem cut_lt {cs : List Ad} (h : cs.Pairwise (fun a b => a.n < b.n)) {i j : Nat} {a b : Ad} (hi : cs[i]? = some a) (hj : cs[j]? = some b) (hij : i < j) : a.n < b.n := by
  obtain ⟨h1, rfl⟩ := List.getElem?_eq_some_iff.1 hi
  obtain ⟨h2, rfl⟩ := List.getElem?_eq_some_iff.1 hj
  exact List.pairwise_iff_getElem.1 h i j h1 h2 hij
theorem lastC_le {cs : List Ad} (h : Cut cs) {i : Nat} {a : Ad} (hi : cs[i]? = some a) : a.n ≤ lastC cs i a ∧ lastC cs i a ≤ topN a.s := by
  have ha := ad_fam (h.right a (List.mem_of_getElem? hi))
  unfold lastC
  cases hn : cs[i + 1]? with
  | none => exact ⟨ha.2, Nat.le_refl _⟩
  | some b =>
    have hlt := cut_lt h.sorted hi hn (Nat.lt_succ_self i)
    have hb := ad_fam (h.right b (List.mem_of_getElem? hn))
    by_cases e : b.s = a.s
    · simp only [if_pos e]; rw [e] at hb; omega
    · simp only [if_neg e]; exact ⟨ha.2, Nat.le_refl _⟩
theorem cut_none {cs : List Ad} (h : Cut cs) {i : Nat} {a : Ad} (hi : cs[i]? = some a) {c : Ad} (hc : c ∈ cs) (hac : a.n < c.n) : lastC cs i a < c.n := by
  obtain ⟨j, hj⟩ := List.mem_iff_getElem?.1 hc
  have ha := ad_fam (h.right a (List.mem_of_getElem? hi))
  have hcf := ad_fam (h.right c hc)
  have hij : i < j := by
    rcases Nat.lt_trichotomy i j with k | k | k
    · exact k
    · subst k; rw [hi] at hj; cases hj; omega
    · have := cut_lt h.sorted hj hi k; omega
  have hlen : j < cs.length := (List.getElem?_eq_some_iff.1 hj).1
  obtain ⟨b, hb⟩ : ∃ b, cs[i + 1]? = some b := ⟨cs[i + 1]'(by omega), List.getElem?_eq_getElem _⟩
  have hbc : b.n ≤ c.n := by
    rcases Nat.lt_trichotomy (i + 1) j with k | k | k
    · exact Nat.le_of_lt (cut_lt h.sorted hb hj k)
    · subst k; rw [hb] at hj; cases hj; exact Nat.le_refl _
    · omega
  have hab := cut_lt h.sorted hi hb (Nat.lt_succ_self i)
  have hbf := ad_fam (h.right b (List.mem_of_getElem? hb))
  unfold lastC
  rw [hb]
  by_cases e : b.s = a.s
  · simp only [if_pos e]; omega
  · simp only [if_neg e]
    revert ha hbf e
    generalize a.s = sa
    generalize b.s = sb
    cases sa <;> cases sb <;> simp only [s2n_true, s2n_false, topN_true, topN_false] <;> intro ha hbf e
    all_goals first | (exact absurd rfl e) | (exact e.elim) | trivial | omega
theorem cut_at : ∀ (cs : List Ad) (m : Nat), (∃ a ∈ cs, a.n ≤ m) → ∃ i a, cs[i]? = some a ∧ a.n ≤ m ∧ ∀ b, cs[i + 1]? = some b → m < b.n
  | [], m, ⟨a, ha, _⟩ => by cases ha
  | x :: t, m, ⟨a, ha, hm⟩ => by
    by_cases h : ∃ c ∈ t, c.n ≤ m
    · obtain ⟨i, b, h1, h2, h3⟩ := cut_at t m h
      exact ⟨i + 1, b, h1, h2, h3⟩
    · rcases List.mem_cons.1 ha with rfl | ha'
      · refine ⟨0, a, rfl, hm, fun b hb => ?_⟩
        have hbt : b ∈ t := List.mem_of_getElem? hb
        rcases Nat.lt_or_ge m b.n with k | k
        · exact k
        · exact absurd ⟨b, hbt, k⟩ h
      · exact absurd ⟨a, ha', hm⟩ h
theorem cut_cover {cs : List Ad} (h : Cut cs) {m : Nat} (hv : Val m) : ∃ i a, cs[i]? = some a ∧ a.n ≤ m ∧ m ≤ lastC cs i a := by
  obtain ⟨s, hs1, hs2⟩ := val_fam hv
  obtain ⟨z, hz, hzn⟩ := h.base s
  obtain ⟨i, a, hi, ha, hn⟩ := cut_at cs m ⟨z, hz, by omega⟩
  refine ⟨i, a, hi, ha, ?_⟩
  have haR := h.right a (List.mem_of_getElem? hi)
  have has : a.s = s := by
    refine fam_of haR ?_ (by omega)
    rcases Nat.lt_or_ge a.n (s2n s) with k | k
    · exfalso
      obtain ⟨j, hj⟩ := List.mem_iff_getElem?.1 hz
      have := cut_none h hi hz (by omega)
      have hle := lastC_le h hi
      unfold lastC at this hle
      cases hb : cs[i + 1]? with
      | none =>
        have hlen : cs.length ≤ i + 1 := List.getElem?_eq_none_iff.1 hb
        have hji : j ≤ i := by have := (List.getElem?_eq_some_iff.1 hj).1; omega
        rcases Nat.lt_or_ge j i with q | q
        · have := cut_lt h.sorted hj hi q; omega
        · have e : j = i := by omega
          subst e; rw [hi] at hj; cases hj; omega
      | some b =>
        have := hn b hb
        have hij : i < j := by
          rcases Nat.lt_trichotomy i j with q | q | q
          · exact q
          · subst q; rw [hi] at hj; cases hj; omega
          · have := cut_lt h.sorted hj hi q; omega
        rcases Nat.lt_trichotomy (i + 1) j with q | q | q
        · have := cut_lt h.sorted hb hj q; omega
        · subst q; rw [hb] at hj; cases hj; omega
        · omega
    · exact k
  unfold lastC
  cases hb : cs[i + 1]? with
  | none => simp only; rw [has]; exact hs2
  | some b =>
    have := hn b hb
    by_cases e : b.s = a.s
    · simp only [if_pos e]; omega
    · simp only [if_neg e]; rw [has]; exact hs2
theorem cut_same {cs : List Ad} (h : Cut cs) {xs : List (Ad × Ad)} (hR : ∀ x ∈ xs, RgR x) (h1 : ∀ x ∈ xs, ∃ c ∈ cs, c.n = x.1.n) (h2 : ∀ x ∈ xs, x.2.n ≠ topN x.2.s → ∃ c ∈ cs, c.n = x.2.n + 1)
    {i : Nat} {a : Ad} (hi : cs[i]? = some a) {m : Nat} (hm1 : a.n ≤ m) (hm2 : m ≤ lastC cs i a) : hasB xs m = hasB xs a.n := by
  rw [Bool.eq_iff_iff, hasB_iff, hasB_iff]
  have hle := lastC_le h hi
  have haf := ad_fam (h.right a (List.mem_of_getElem? hi))
  constructor
  · rintro ⟨x, hx, k1, k2⟩
    refine ⟨x, hx, ?_, by omega⟩
    rcases Nat.lt_or_ge a.n x.1.n with k | k
    · obtain ⟨c, hc, hcn⟩ := h1 x hx
      have := cut_none h hi hc (by omega)
      omega
    · exact k
  · rintro ⟨x, hx, k1, k2⟩
    refine ⟨x, hx, by omega, ?_⟩
    rcases Nat.lt_or_ge x.2.n m with k | k
    · exfalso
      have hxs := rg_fam_of (hR x hx) haf.1 haf.2 k1 k2
      have hxf := (hR x hx).2.2.1
      obtain ⟨c, hc, hcn⟩ := h2 x hx (by rw [← hxf, hxs]; omega)
      have := cut_none h hi hc (by omega)
      omega
    · exact k
def whL (cs : List Ad) (h : Nat → Bool) : Nat → List (Ad × Ad)
  | 0 => []
  | k + 1 => match cs[k]? with
    | some a => if h a.n then whL cs h k ++ [(a, adOf (lastC cs k a))] else whL cs h k
    | none => whL cs h k
theorem mem_whL (cs : List Ad) (h : Nat → Bool) (x : Ad × Ad) : ∀ k, x ∈ whL cs h k ↔ ∃ i a, i < k ∧ cs[i]? = some a ∧ h a.n = true ∧ x = (a, adOf (lastC cs i a))
  | 0 => ⟨fun hx => (by cases hx), fun ⟨i, _, hi, _⟩ => (by omega)⟩
  | k + 1 => by
    have ih := mem_whL cs h x k
    have up : (∃ i a, i < k ∧ cs[i]? = some a ∧ h a.n = true ∧ x = (a, adOf (lastC cs i a))) → ∃ i a, i < k + 1 ∧ cs[i]? = some a ∧ h a.n = true ∧ x = (a, adOf (lastC cs i a)) := fun ⟨i, a, h1, h2⟩ => ⟨i, a, by omega, h2⟩
    unfold whL
    cases hc : cs[k]? with
    | none =>
      simp only
      rw [ih]
      refine ⟨up, ?_⟩
      rintro ⟨i, a, h1, h2, h3⟩
      rcases Nat.lt_or_ge i k with q | q
      · exact ⟨i, a, q, h2, h3⟩
      · have e : i = k := by omega
        subst e; rw [hc] at h2; cases h2
    | some a =>
      simp only
      by_cases ha : h a.n = true
      · rw [if_pos ha, List.mem_append, ih, List.mem_singleton]
        constructor
        · rintro (q | q)
          · exact up q
          · exact ⟨k, a, by omega, hc, ha, q⟩
        · rintro ⟨i, b, h1, h2, h3, h4⟩
          rcases Nat.lt_or_ge i k with q | q
          · exact .inl ⟨i, b, q, h2, h3, h4⟩
          · have e : i = k := by omega
            subst e; rw [hc] at h2; cases h2
            exact .inr h4
      · rw [if_neg ha, ih]
        refine ⟨up, ?_⟩
        rintro ⟨i, b, h1, h2, h3, h4⟩
        rcases Nat.lt_or_ge i k with q | q
        · exact ⟨i, b, q, h2, h3, h4⟩
        · have e : i = k := by omega
          subst e; rw [hc] at h2; cases h2
          exact absurd h3 ha
theorem whL_len (cs : List Ad) (h : Nat → Bool) : ∀ k, (whL cs h k).length ≤ k
  | 0 => Nat.le_refl _
  | k + 1 => by
    have ih := whL_len cs h k
    unfold whL
    cases cs[k]? with
    | none => simp only; omega
    | some a =>
      simp only
      by_cases ha : h a.n = true
      · rw [if_pos ha, List.length_append]; simp; omega
      · rw [if_neg ha]; omega
theorem whL_R {cs : List Ad} (hc : Cut cs) (h : Nat → Bool) (k : Nat) : ∀ x ∈ whL cs h k, RgR x := by
  intro x hx
  obtain ⟨i, a, _, h2, _, rfl⟩ := (mem_whL cs h x k).1 hx
  have h1 := lastC_le hc h2
  have haR := hc.right a (List.mem_of_getElem? h2)
  have haf := ad_fam haR
  obtain ⟨q1, q2, q3⟩ := adOf_fam (s := a.s) (m := lastC cs i a) (by omega) h1.2
  exact ⟨haR, q1, q3.symm, by rw [q2]; exact h1.1⟩
theorem whL_in {cs : List Ad} (hc : Cut cs) (h : Nat → Bool) (hsame : ∀ i a m, cs[i]? = some a → a.n ≤ m → m ≤ lastC cs i a → h m = h a.n) (m : Nat) : InA (whL cs h cs.length) m ↔ Val m ∧ h m = true := by
  constructor
  · intro hm
    refine ⟨inA_val (whL_R hc h _) hm, ?_⟩
    obtain ⟨x, hx, k1, k2⟩ := hm
    obtain ⟨i, a, _, h2, h3, rfl⟩ := (mem_whL cs h x _).1 hx
    have h1 := lastC_le hc h2
    have haf := ad_fam (hc.right a (List.mem_of_getElem? h2))
    obtain ⟨q1, q2, q3⟩ := adOf_fam (s := a.s) (m := lastC cs i a) (by omega) h1.2
    rw [hsame i a m h2 k1 (by rw [← q2]; exact k2)]
    exact h3
  · rintro ⟨hv, hm⟩
    obtain ⟨i, a, hi, h1, h2⟩ := cut_cover hc hv
    have hle := lastC_le hc hi
    have haf := ad_fam (hc.right a (List.mem_of_getElem? hi))
    obtain ⟨q1, q2, q3⟩ := adOf_fam (s := a.s) (m := lastC cs i a) (by omega) hle.2
    refine ⟨(a, adOf (lastC cs i a)), (mem_whL cs h _ _).2 ⟨i, a, (List.getElem?_eq_some_iff.1 hi).1, hi, ?_, rfl⟩, h1, by rw [q2]; exact h2⟩
    rw [← hsame i a m hi h1 h2]
    exact hm

structure GapI (zs : List (Ad × Ad)) (s : Bool) (k at_ : Nat) (dn : Bool) (out : List (Ad × Ad)) (N : Nat) : Prop where
  apart : out.Pairwise (fun x y => x.2.n + 1 < y.1.n)
  right : ∀ y ∈ out, RgR y
  mem : ∀ m, InA out m ↔ Val m ∧ m < at_ ∧ ¬ InA zs m
  lo : ∀ y ∈ out, y.2.n + 1 < at_
  base : s2n s ≤ at_
  done : dn = true → at_ = topN s + 1
  more : dn = false → at_ ≤ topN s
  front : ∀ j x, k ≤ j → zs[j]? = some x → x.1.s = s → at_ ≤ x.1.n
  back : ∀ j x, j < k → zs[j]? = some x → x.1.s = s → x.2.n < at_
  len : out.length ≤ N + k
theorem GapI.skip {zs : List (Ad × Ad)} (hR : ∀ z ∈ zs, RgR z) {s : Bool} {k a N : Nat} {dn : Bool} {out : List (Ad × Ad)} (h : GapI zs s k a dn out N) {x : Ad × Ad} (hx : zs[k]? = some x) (hs : x.1.s ≠ s ∨ dn = true) : GapI zs s (k + 1) a dn out N where
  apart := h.apart
  right := h.right
  mem := h.mem
  lo := h.lo
  base := h.base
  done := h.done
  more := h.more
  front := fun j y hj => h.front j y (by omega)
  back := fun j y hj hy he => by
    rcases Nat.lt_or_ge j k with q | q
    · exact h.back j y q hy he
    · have e : j = k := by omega
      subst e
      rw [hx] at hy
      cases hy
      rcases hs with k1 | k1
      · exact absurd he k1
      · exfalso
        have h1 := h.front j x (Nat.le_refl _) hx he
        have h2 := h.done k1
        have h3 := rg_fam (hR x (List.mem_of_getElem? hx))
        have h4 := (hR x (List.mem_of_getElem? hx)).2.2.2
        rw [he] at h3
        omega
  len := by have := h.len; omega
theorem GapI.free {zs : List (Ad × Ad)} (hR : ∀ z ∈ zs, RgR z) (hp : zs.Pairwise (fun x y => x.2.n + 1 < y.1.n)) {s : Bool} {k a N : Nat} {dn : Bool} {out : List (Ad × Ad)} (h : GapI zs s k a dn out N) {m : Nat} (hm : a ≤ m) (hmt : m ≤ topN s) (hx : ∀ x, zs[k]? = some x → m < x.1.n) : ¬ InA zs m := by
  rintro ⟨z, hz, h1, h2⟩
  obtain ⟨j, hj⟩ := List.mem_iff_getElem?.1 hz
  have hzs := rg_fam_of (hR z hz) (Nat.le_trans h.base hm) hmt h1 h2
  rcases Nat.lt_trichotomy j k with q | q | q
  · have := h.back j z q hj hzs; omega
  · subst q; have := hx z hj; omega
  · have hk : k < zs.length := by have := (List.getElem?_eq_some_iff.1 hj).1; omega
    obtain ⟨x, hxk⟩ : ∃ x, zs[k]? = some x := ⟨zs[k], List.getElem?_eq_getElem hk⟩
    have h4 : x.2.n + 1 < z.1.n := by
      obtain ⟨h5, rfl⟩ := List.getElem?_eq_some_iff.1 hj
      obtain ⟨h6, rfl⟩ := List.getElem?_eq_some_iff.1 hxk
      exact List.pairwise_iff_getElem.1 hp k j h6 h5 q
    have hxr := (hR x (List.mem_of_getElem? hxk)).2.2.2
    have := hx x hxk
    omega
theorem GapI.take {zs : List (Ad × Ad)} (hR : ∀ z ∈ zs, RgR z) (hp : zs.Pairwise (fun x y => x.2.n + 1 < y.1.n)) {s : Bool} {k a N : Nat} {out : List (Ad × Ad)} (h : GapI zs s k a false out N) {x : Ad × Ad} (hx : zs[k]? = some x) (hs : x.1.s = s) :
    GapI zs s (k + 1) (x.2.n + 1) (decide (x.2.n = topN s)) (if a < x.1.n then out ++ [(adOf a, adOf (x.1.n - 1))] else out) N := by
  have hxR := hR x (List.mem_of_getElem? hx)
  have hxf := rg_fam hxR
  rw [hs] at hxf
  have hxl := hxR.2.2.2
  have ha := h.front k x (Nat.le_refl _) hx hs
  have hb := h.base
  have hpt : ∀ j z, k < j → zs[j]? = some z → x.2.n + 1 < z.1.n := fun j z hj hz => by
    obtain ⟨h5, rfl⟩ := List.getElem?_eq_some_iff.1 hz
    obtain ⟨h6, rfl⟩ := List.getElem?_eq_some_iff.1 hx
    exact List.pairwise_iff_getElem.1 hp k j h6 h5 hj
  have hxm : ∀ m, x.1.n ≤ m → m ≤ x.2.n → InA zs m := fun m h1 h2 => ⟨x, List.mem_of_getElem? hx, h1, h2⟩
  have rest : ∀ out' : List (Ad × Ad), out'.Pairwise (fun x y => x.2.n + 1 < y.1.n) → (∀ y ∈ out', RgR y) → (∀ m, InA out' m ↔ Val m ∧ m < x.1.n ∧ ¬ InA zs m) → (∀ y ∈ out', y.2.n + 1 < x.2.n + 1) → out'.length ≤ N + (k + 1) →
      GapI zs s (k + 1) (x.2.n + 1) (decide (x.2.n = topN s)) out' N := fun out' p1 p2 p3 p4 p5 =>
    { apart := p1
      right := p2
      mem := fun m => by
        rw [p3]
        constructor
        · rintro ⟨q1, q2, q3⟩; exact ⟨q1, by omega, q3⟩
        · rintro ⟨q1, q2, q3⟩
          refine ⟨q1, ?_, q3⟩
          rcases Nat.lt_or_ge m x.1.n with q | q
          · exact q
          · exact absurd (hxm m q (by omega)) q3
      lo := p4
      base := by omega
      done := fun e => by rw [of_decide_eq_true e]
      more := fun e => by have := of_decide_eq_false e; omega
      front := fun j z hj hz _ => by have := hpt j z (by omega) hz; omega
      back := fun j z hj hz he => by
        rcases Nat.lt_or_ge j k with q | q
        · have := h.back j z q hz he; omega
        · have e : j = k := by omega
          subst e; rw [hx] at hz; cases hz; omega
      len := p5 }
  by_cases hlt : a < x.1.n
  · rw [if_pos hlt]
    obtain ⟨r1, r2, r3⟩ := adOf_rg (s := s) (a := a) (b := x.1.n - 1) hb (by omega) (by omega)
    have hfree : ∀ m, a ≤ m → m ≤ x.1.n - 1 → ¬ InA zs m := fun m h1 h2 => h.free hR hp h1 (by omega) (fun y hy => by rw [hx] at hy; cases hy; omega)
    refine rest _ ?_ ?_ ?_ ?_ ?_
    · refine List.pairwise_append.2 ⟨h.apart, List.pairwise_singleton _ _, fun y hy z hz => ?_⟩
      rw [List.mem_singleton.1 hz]
      show y.2.n + 1 < (adOf a).n
      rw [r2]
      exact h.lo y hy
    · intro y hy
      rcases List.mem_append.1 hy with hy | hy
      · exact h.right y hy
      · rw [List.mem_singleton.1 hy]; exact r1
    · intro m
      rw [inA_append, h.mem, inA_cons]
      show (_ ∨ ((adOf a).n ≤ m ∧ m ≤ (adOf (x.1.n - 1)).n) ∨ _) ↔ _
      rw [r2, r3]
      constructor
      · rintro (⟨q1, q2, q3⟩ | ⟨q1, q2⟩ | q)
        · exact ⟨q1, by omega, q3⟩
        · exact ⟨fam_val (s := s) (by omega) (by omega), by omega, hfree m q1 q2⟩
        · exact absurd q (inA_nil m)
      · rintro ⟨q1, q2, q3⟩
        rcases Nat.lt_or_ge m a with q | q
        · exact .inl ⟨q1, q, q3⟩
        · exact .inr (.inl ⟨q, by omega⟩)
    · intro y hy
      rcases List.mem_append.1 hy with hy | hy
      · have := h.lo y hy; omega
      · rw [List.mem_singleton.1 hy]
        show (adOf (x.1.n - 1)).n + 1 < _
        rw [r3]; omega
    · have := h.len
      rw [List.length_append]; simp; omega
  · rw [if_neg hlt]
    have e : a = x.1.n := by omega
    refine rest _ h.apart h.right (fun m => by rw [h.mem, e]) (fun y hy => by have := h.lo y hy; omega) (by have := h.len; omega)
theorem GapI.ends {zs : List (Ad × Ad)} (hR : ∀ z ∈ zs, RgR z) (hp : zs.Pairwise (fun x y => x.2.n + 1 < y.1.n)) {s : Bool} {a N : Nat} {dn : Bool} {out : List (Ad × Ad)} (h : GapI zs s zs.length a dn out N) :
    ∃ out', out' = (if dn then out else out ++ [(adOf a, adOf (topN s))]) ∧ out'.Pairwise (fun x y => x.2.n + 1 < y.1.n) ∧ (∀ y ∈ out', RgR y ∧ y.2.n ≤ topN s) ∧ (∀ m, InA out' m ↔ Val m ∧ m ≤ topN s ∧ ¬ InA zs m) ∧ out'.length ≤ N + zs.length + 1 := by
  refine ⟨_, rfl, ?_⟩
  have hb := h.base
  have hlen := h.len
  cases dn with
  | true =>
    have hd := h.done rfl
    refine ⟨h.apart, fun y hy => ⟨h.right y hy, by have := h.lo y hy; omega⟩, fun m => ?_, by simp only [if_true]; omega⟩
    simp only [if_true]
    rw [h.mem, hd]
    constructor
    · rintro ⟨q1, q2, q3⟩; exact ⟨q1, by omega, q3⟩
    · rintro ⟨q1, q2, q3⟩; exact ⟨q1, by omega, q3⟩
  | false =>
    have hm := h.more rfl
    simp only [Bool.false_eq_true, if_false]
    obtain ⟨r1, r2, r3⟩ := adOf_rg (s := s) (a := a) (b := topN s) hb hm (Nat.le_refl _)
    have hfree : ∀ m, a ≤ m → m ≤ topN s → ¬ InA zs m := fun m h1 h2 => h.free hR hp h1 h2 (fun y hy => by
      have := (List.getElem?_eq_some_iff.1 hy).1; omega)
    refine ⟨?_, ?_, ?_, ?_⟩
    · refine List.pairwise_append.2 ⟨h.apart, List.pairwise_singleton _ _, fun y hy z hz => ?_⟩
      rw [List.mem_singleton.1 hz]
      show y.2.n + 1 < (adOf a).n
      rw [r2]
      exact h.lo y hy
    · intro y hy
      rcases List.mem_append.1 hy with hy | hy
      · exact ⟨h.right y hy, by have := h.lo y hy; omega⟩
      · rw [List.mem_singleton.1 hy]
        exact ⟨r1, by show (adOf (topN s)).n ≤ _; rw [r3]; exact Nat.le_refl _⟩
    · intro m
      rw [inA_append, h.mem, inA_cons]
      show (_ ∨ ((adOf a).n ≤ m ∧ m ≤ (adOf (topN s)).n) ∨ _) ↔ _
      rw [r2, r3]
      constructor
      · rintro (⟨q1, q2, q3⟩ | ⟨q1, q2⟩ | q)
        · exact ⟨q1, by omega, q3⟩
        · exact ⟨fam_val (s := s) (by omega) q2, q2, hfree m q1 q2⟩
        · exact absurd q (inA_nil m)
      · rintro ⟨q1, q2, q3⟩
        rcases Nat.lt_or_ge m a with q | q
        · exact .inl ⟨q1, q, q3⟩
        · exact .inr (.inl ⟨q, q2⟩)
    · rw [List.length_append]; simp; omega
theorem gaps_told {zs out : List (Ad × Ad)} (h1 : out.Pairwise (fun x y => x.2.n + 1 < y.1.n)) (h2 : ∀ y ∈ out, RgR y ∧ y.2.n ≤ topN true) (h3 : ∀ m, InA out m ↔ Val m ∧ m ≤ topN true ∧ ¬ InA zs m) : Tells out (fun m => Val m ∧ ¬ InA zs m) :=
  ⟨h1, fun m => by
    rw [h3]
    constructor
    · rintro ⟨q1, _, q3⟩; exact ⟨q1, q3⟩
    · rintro ⟨q1, q3⟩
      refine ⟨q1, ?_, q3⟩
      unfold Val at q1
      rw [topN_true]; omega, fun y hy => (h2 y hy).1⟩

theorem prev_step {a : Ad} (h : a.R) (hne : a.n ≠ s2n a.s) : (a.lo = 0 → 0 < a.hi ∧ adOf (a.n - 1) = ⟨a.s, a.hi - 1, 18446744073709551615⟩) ∧ (a.lo ≠ 0 → adOf (a.n - 1) = ⟨a.s, a.hi, a.lo - 1⟩) := by
  have hlt := h.1.n_lt
  have hge := (ad_fam h).1
  obtain ⟨⟨h1, h2⟩, ⟨h3, h4⟩⟩ := h.1
  constructor
  · intro hl
    have hhi : 0 < a.hi := by
      rcases Int.lt_or_le 0 a.hi with g | g
      · exact g
      · exfalso
        apply hne
        have hh : a.hi = 0 := by omega
        unfold Ad.n Ad.v num
        rw [hh, hl]
        rfl
    refine ⟨hhi, Ad.ext' (adOf_U _) ⟨⟨by show 0 ≤ a.hi - 1; omega, by show a.hi - 1 < _; omega⟩, ⟨by show (0 : Int) ≤ 18446744073709551615; omega, by show (18446744073709551615 : Int) < _; omega⟩⟩ ?_⟩
    rw [adOf_n (by omega)]
    unfold Ad.n Ad.v num
    simp only
    rw [hl]
    omega
  · intro hl
    refine Ad.ext' (adOf_U _) ⟨⟨h1, h2⟩, ⟨by show 0 ≤ a.lo - 1; omega, by show a.lo - 1 < _; omega⟩⟩ ?_
    rw [adOf_n (by omega)]
    unfold Ad.n Ad.v num
    simp only
    omega

set_option maxHeartbeats 4000000 in
theorem before_any (a : Ad) (w : World) (h : a.R) (hne : a.n ≠ s2n a.s) : Calls Tryz.prog 241 #[adA a] w (GivesV (adA (adOf (a.n - 1))) w) := by
  obtain ⟨h1, h2⟩ := two_new w (adC a) [.bool false, .int .u64 0, .int .u64 0] 38 38
  have hG := below_two w (.cells (adC a).toArray 38) (.cells #[.bool false, .int .u64 0, .int .u64 0] 38)
  have hst := prev_step h hne
  have c2 := h1.cell (i := 2) (v := .int .u64 a.lo) rfl
  have c1 := h1.cell (i := 1) (v := .int .u64 a.hi) rfl
  have f1 := h1.free 1
  have f2 := h1.free 2
  obtain ⟨⟨g1, g2⟩, ⟨g3, g4⟩⟩ := h.1
  by_cases hl : a.lo = 0
  · obtain ⟨hhi, st⟩ := hst.1 hl
    obtain ⟨M, hM⟩ : ∃ M : Int, M = 18446744073709551615 := ⟨_, rfl⟩
    have w1 : IntKind.u64.wrap (-1) = M := by rw [IntKind.wrap_u64, hM]; rfl
    have w2 : IntKind.u64.wrap (a.hi - 1) = a.hi - 1 := by rw [IntKind.wrap_u64]; omega
    have k1' := (h1.set 1 (.int .u64 (a.hi - 1))).set 2 (.int .u64 M)
    have k2' := (h2.other (a := ⟨w.heap.size, 1, none⟩) (by simp) (.int .u64 (a.hi - 1))).other (a := ⟨w.heap.size, 2, none⟩) (by simp) (.int .u64 M)
    have e1 : ((adC a).set 1 (.int .u64 (a.hi - 1))).set 2 (.int .u64 M) = adC (adOf (a.n - 1)) := by rw [st, hM]; rfl
    rw [e1] at k1'
    have L1 := k1'.ld rowAd rfl
    have S1 := stT_row rowAd k2' rfl (adC_len (adOf (a.n - 1))) (adC_one _)
    rw [hl] at c2
    clear hst hM g1 g2 g3 g4 hne h hl st e1 hhi
    go_enter Tryz.func241, Tryz.ntmps241
    go_upto_region 1 with fail
    generalize (w.alloc (.cells (adC a).toArray 38)).alloc (.cells #[.bool false, .int .u64 0, .int .u64 0] 38) = W at *
    go_wp2_with fail
    refine bodyPost_ret (v := adA (adOf (a.n - 1))) ?_ rfl ⟨rfl, ((hG.setCell (p := ⟨w.heap.size, 1, none⟩) (Nat.le_refl _) _).setCell (p := ⟨w.heap.size, 2, none⟩) (Nat.le_refl _) _).trans ⟨rfl, rfl, rfl, by simp, fun k hk => setRow_other _ _ _ _ (by omega)⟩⟩
    exact results_row rowAd rfl _ _ _ _ _ rfl (k2'.row _) rfl
  · have st := hst.2 hl
    have b0 : (a.lo == 0) = false := by simp [hl]
    have k1' := h1.set 2 (.int .u64 (a.lo - 1))
    have k2' := h2.other (a := ⟨w.heap.size, 2, none⟩) (by simp) (.int .u64 (a.lo - 1))
    have e1 : (adC a).set 2 (.int .u64 (a.lo - 1)) = adC (adOf (a.n - 1)) := by rw [st]; rfl
    rw [e1] at k1'
    have L1 := k1'.ld rowAd rfl
    have S1 := stT_row rowAd k2' rfl (adC_len (adOf (a.n - 1))) (adC_one _)
    have w1 : IntKind.u64.wrap (a.lo - 1) = a.lo - 1 := by rw [IntKind.wrap_u64]; omega
    clear hst g1 g2 g3 g4 hne h hl st e1
    go_enter Tryz.func241, Tryz.ntmps241
    go_upto_region 1 with fail
    generalize (w.alloc (.cells (adC a).toArray 38)).alloc (.cells #[.bool false, .int .u64 0, .int .u64 0] 38) = W at *
    go_wp2_with fail
    refine bodyPost_ret (v := adA (adOf (a.n - 1))) ?_ rfl ⟨rfl, (hG.setCell (p := ⟨w.heap.size, 2, none⟩) (Nat.le_refl _) _).trans ⟨rfl, rfl, rfl, by simp, fun k hk => setRow_other _ _ _ _ (by omega)⟩⟩
    exact results_row rowAd rfl _ _ _ _ _ rfl (k2'.row _) rfl
end Go.Proofs.YtmgdkefoehlamaaGreatDoor
