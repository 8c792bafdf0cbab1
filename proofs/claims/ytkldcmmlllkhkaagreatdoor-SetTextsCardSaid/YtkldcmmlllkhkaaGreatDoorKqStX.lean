/- Sets: the reference: SetFault. -/
import Derived.Test.YtkldcmmlllkhkaaGreatDoorKqGzA
import Derived.Test.YtkldcmmlllkhkaaGreatDoorKqStT
import Derived.Test.YtkldcmmlllkhkaaGreatDoorKqSiteB
set_option linter.unusedVariables false
set_option linter.unusedSimpArgs false
set_option maxRecDepth 100000
namespace Go.Proofs.YtkldcmmlllkhkaaGreatDoor
open Go.RowKit

set_option maxHeartbeats 2000000 in
theorem leastOf_any (A : Option Addr) (n cap : Nat) (ps : List Pf) (w : World) (hS : SlE ePf w A n cap ps) (hn : n ≤ 1000) (hR : ∀ p ∈ ps, p.R) :
    Calls Tryz.prog 22 #[.slice A n cap] w fun e w' => ∃ ys, Joined ys (ps.map rgP) ∧ ys.length ≤ n ∧ GivesO ePf 41 w.heap.size (pfsOf (ys.map rowA)) e w' ∧ Below w.heap.size w w' := by
  have HS := Lib.hid (ofS_any A n cap ps w hS (by omega) hR)
  clear hS hR
  go_enter Tryz.func22, Tryz.ntmps22
  go_wp2_with fail
  refine HS.out.mono ?_
  rintro e w1 ⟨ys, hy1, hy2, ⟨A2, cap2, rfl, hSl, hA⟩, hb1⟩
  have HP := Lib.hid (prefixesR_any A2 ys.length cap2 ys w1 hSl (by omega) hy1.2.2)
  replace hy1 := Lib.hid hy1
  clear HS hSl hA
  obtain ⟨L, hL⟩ : ∃ m, m = ys.length := ⟨_, rfl⟩
  rw [← hL] at HP hy2 ⊢
  replace hL := Lib.hid hL
  go_wp2_with fail
  refine HP.out.mono ?_
  rintro e w2 ⟨⟨v4, rfl, ho4⟩, hb2⟩
  clear HP
  go_wp2_with fail
  go_ret
  exact ⟨ys, hy1.out, by rw [← hL.out]; exact hy2, ⟨v4, rfl, ho4.mono hb1.size⟩, hb1.trans (hb2.mono hb1.size)⟩


theorem SlE.keepG {α : Type} {E : Enc α} {w u : World} {A : Option Addr} {n cap : Nat} {xs : List α} (h : SlE E w A n cap xs) (hu : w.grownBy u none) : SlE E u A n cap xs := h.below (gb2B hu)
def pfQQ (p q : Pf) : Bool := pfQ p.1.s q.1.s p.1.hi p.1.lo q.1.hi q.1.lo p.2 q.2
@[go_sem] theorem run_nePfA (x y : Operand) (p q : Pf) (w : World) : (nePf x y (.agg (pfC p).toArray) (.agg (pfC q).toArray)).run Tryz.prog w = .ok (.value (.bool (!pfQQ p q))) w :=
  run_nePf x y p.1.s q.1.s p.1.hi p.1.lo q.1.hi q.1.lo p.2 q.2 w
@[go_sem] theorem run_nePfE (x y : Operand) (p q : Pf) (w : World) : (nePf x y (.agg (ePf.enc p).toArray) (.agg (ePf.enc q).toArray)).run Tryz.prog w = .ok (.value (.bool (!pfQQ p q))) w := run_nePfA x y p q w
theorem pfQQ_iff (p q : Pf) : pfQQ p q = true ↔ p = q := by
  obtain ⟨⟨s, hi, lo⟩, n⟩ := p
  obtain ⟨⟨t, hh, l⟩, m⟩ := q
  unfold pfQQ pfQ
  simp only [Bool.and_eq_true, beq_iff_eq]
  constructor
  · rintro h
    obtain ⟨h1, h2, h3, h4⟩ : s = t ∧ hi = hh ∧ lo = l ∧ n = m := by simpa [and_assoc] using h
    subst h1; subst h2; subst h3; subst h4; rfl
  · intro h
    injection h with h1 h2
    injection h1 with h3 h4 h5
    subst h2; subst h3; subst h4; subst h5
    simp
set_option maxHeartbeats 2000000 in
theorem equalPf_any (A A' : Option Addr) (n m cap cap' : Nat) (xs ys : List Pf) (w : World) (hS : SlE ePf w A n cap xs) (hS' : SlE ePf w A' m cap' ys) (hn : n ≤ 1000000) (hm : m ≤ 1000000) :
    Calls Tryz.prog 11 #[.slice A n cap, .slice A' m cap'] w fun e w' => ∃ b, e = .returned (.bool b) ∧ (b = true ↔ xs = ys) ∧ Below w.heap.size w w' := by
  have hl := Lib.hid hS.1
  have hl' := Lib.hid hS'.1
  have hS := Lib.hid hS
  have hS' := Lib.hid hS'
  by_cases hnm : n = m
  · subst hnm
    go_enter Tryz.func11, Tryz.ntmps11
    go_wp2_with fail
    go_loopw [13] (fun i wr => ∃ k : Nat, k ≤ n ∧ i = .int .i64 k ∧ Hid (xs.take k = ys.take k) ∧ Below w.heap.size w wr) (fun i _ => n - (intOf i).toNat)
    case atStart => exact ⟨0, by omega, rfl, Lib.hid rfl, Below.refl _ _⟩
    case round =>
      obtain ⟨k, hk, rfl, htk, hbw⟩ := hrel
      by_cases hlt : k < n
      · obtain ⟨x, hx⟩ : ∃ x, xs[k]? = some x := ⟨xs[k]'(by have := hl.out; omega), List.getElem?_eq_getElem _⟩
        obtain ⟨y, hy⟩ : ∃ y, ys[k]? = some y := ⟨ys[k]'(by have := hl'.out; omega), List.getElem?_eq_getElem _⟩
        obtain ⟨g0, off, rfl, _, _⟩ := hS.out.at' hlt
        obtain ⟨g1, off', rfl, _, _⟩ := hS'.out.at' hlt
        have hlt' : (k : Int) < n := by omega
        have HQ := Lib.hid (pfQQ_iff x y)
        have hx := Lib.hid hx
        have hy := Lib.hid hy
        go_wp2_with fail
        refine wx_begin (none) [] (by kernel_rfl) (fun u0 hb0' hz0' => ?_)
        replace hbw := hbw.trans (hb0'.mono hbw.size)
        clear hb0' hz0'
        refine wx_pureZ 0 (some 16) (v := ?_) ?_ ?_; rotate_left; · (intro u; go_simp; try with_reducible rfl)
        try simp only [Act.put, gzD, gzE, gzF]
        refine wx_pureZ 1 (some 17) (v := ?_) ?_ ?_; rotate_left; · (intro u; go_simp; try with_reducible rfl)
        try simp only [Act.put, gzD, gzE, gzF]
        refine wx_pureZ 2 (some 18) (v := ?_) ?_ ?_; rotate_left; · (intro u; go_simp; try with_reducible rfl)
        try simp only [Act.put, gzD, gzE, gzF]
        refine wx_takeZ 3 (some 19) (v := ?_) ?_ ?_; rotate_left; · (intro u hu; have k1 := SlE.ld rowPf ((hS.out.below hbw).keepG hu) hx.out; have k2 := SlE.ld rowPf ((hS'.out.below hbw).keepG hu) hy.out; replace k1 : (ldT 41 (.pointer (some ⟨g0, off + k * 4, none⟩))).run Tryz.prog u = .ok (.value (.agg (ePf.enc x).toArray)) u := k1; replace k2 : (ldT 41 (.pointer (some ⟨g1, off' + k * 4, none⟩))).run Tryz.prog u = .ok (.value (.agg (ePf.enc y).toArray)) u := k2; go_simp; try with_reducible rfl)
        try simp only [Act.put, gzD, gzE, gzF]
        refine wx_pureZ 4 (some 20) (v := ?_) ?_ ?_; rotate_left; · (intro u; go_simp; try with_reducible rfl)
        try simp only [Act.put, gzD, gzE, gzF]
        refine wx_pureZ 5 (some 21) (v := ?_) ?_ ?_; rotate_left; · (intro u; go_simp; try with_reducible rfl)
        try simp only [Act.put, gzD, gzE, gzF]
        refine wx_pureZ 6 (some 22) (v := ?_) ?_ ?_; rotate_left; · (intro u; go_simp; try with_reducible rfl)
        try simp only [Act.put, gzD, gzE, gzF]
        refine wx_takeZ 7 (some 23) (v := ?_) ?_ ?_; rotate_left; · (intro u hu; have k1 := SlE.ld rowPf ((hS.out.below hbw).keepG hu) hx.out; have k2 := SlE.ld rowPf ((hS'.out.below hbw).keepG hu) hy.out; replace k1 : (ldT 41 (.pointer (some ⟨g0, off + k * 4, none⟩))).run Tryz.prog u = .ok (.value (.agg (ePf.enc x).toArray)) u := k1; replace k2 : (ldT 41 (.pointer (some ⟨g1, off' + k * 4, none⟩))).run Tryz.prog u = .ok (.value (.agg (ePf.enc y).toArray)) u := k2; go_simp; try with_reducible rfl)
        try simp only [Act.put, gzD, gzE, gzF]
        refine wx_pureZ 8 (some 24) (v := ?_) ?_ ?_; rotate_left; · (intro u; go_simp; try with_reducible rfl)
        try simp only [Act.put, gzD, gzE, gzF]
        refine wx_done (by kernel_rfl) ?_ _
        skip
        generalize pfQQ x y = q at *
        cases q
        · have hne := Lib.hid (show ¬ xs = ys from fun e => by
            have h1 := hx.out
            rw [e, hy.out] at h1
            injection h1 with h1
            have := HQ.out.2 h1.symm
            cases this)
          go_wp2_with fail
          go_ret
          exact ⟨false, rfl, ⟨fun h => by (first | exact h.elim | cases h), fun h => absurd h hne.out⟩, hbw⟩
        · have hxy := HQ.out.1 rfl
          have htk2 := Lib.hid (show xs.take (k + 1) = ys.take (k + 1) by rw [List.take_add_one, List.take_add_one, htk.out, hx.out, hy.out, hxy])
          clear hxy HQ
          go_wp2_with fail
          go_roundw
          case rel => exact ⟨k + 1, by omega, by go_num, htk2, hbw⟩
          case measure => simp [intOf]; omega
      · have he := Lib.hid (show xs = ys by
          have h1 := htk.out
          rwa [List.take_of_length_le (by have := hl.out; omega), List.take_of_length_le (by have := hl'.out; omega)] at h1)
        go_wp2_with fail
        go_ret
        exact ⟨true, rfl, ⟨fun _ => he.out, fun _ => rfl⟩, hbw⟩
  · have h0 : ((n : Int) == (m : Int)) = false := by rw [beq_eq_false_iff_ne]; omega
    have hne := Lib.hid (show ¬ xs = ys from fun e => by have h1 := hl.out; have h2 := hl'.out; rw [e] at h1; omega)
    clear hnm
    go_enter Tryz.func11, Tryz.ntmps11
    go_wp2_with fail
    go_ret
    exact ⟨false, rfl, ⟨fun h => by (first | exact h.elim | cases h), fun h => absurd h hne.out⟩, Below.refl _ _⟩


def scanF : Option Pf → List Pf → Int
  | _, [] => 0
  | o, p :: r => if pfE p ≠ 0 then pfE p else if (match o with | none => false | some q => decide (p.1.n ≤ q.1.n)) then 7 else scanF (some p) r
def prevOf (ps : List Pf) : Nat → Option Pf
  | 0 => none
  | k + 1 => ps[k]?
def ScanP (ps : List Pf) (k : Nat) : Prop := (∀ p ∈ ps.take k, p.R) ∧ (∀ j p q, j + 1 < k → ps[j]? = some p → ps[j + 1]? = some q → p.1.n < q.1.n) ∧ scanF none ps = scanF (prevOf ps k) (ps.drop k)
theorem scan_start (ps : List Pf) : ScanP ps 0 := ⟨fun p hp => by simp at hp, fun j p q h => by omega, rfl⟩
theorem scan_at {ps : List Pf} {k : Nat} {p : Pf} (h : ScanP ps k) (hp : ps[k]? = some p) : pfE p ≠ 0 → scanF none ps = pfE p := fun hE => by
  obtain ⟨hk, hpe⟩ := List.getElem?_eq_some_iff.1 hp
  rw [h.2.2, List.drop_eq_getElem_cons hk, hpe]
  unfold scanF
  rw [if_pos hE]
theorem take_R {ps : List Pf} {k : Nat} {p : Pf} (h : ∀ x ∈ ps.take k, x.R) (hp : ps[k]? = some p) (hpR : p.R) : ∀ x ∈ ps.take (k + 1), x.R := by
  intro x hx
  rw [List.take_add_one, hp] at hx
  rcases List.mem_append.1 hx with hx | hx
  · exact h x hx
  · simp at hx; rw [hx]; exact hpR
theorem scanP_zero {ps : List Pf} {p : Pf} (h : ScanP ps 0) (hp : ps[0]? = some p) (hpR : p.R) : ScanP ps 1 := by
  refine ⟨take_R h.1 hp hpR, fun j p q hj => by omega, ?_⟩
  obtain ⟨hk, hpe⟩ := List.getElem?_eq_some_iff.1 hp
  rw [h.2.2, List.drop_eq_getElem_cons hk, hpe]
  show scanF none (p :: ps.drop 1) = scanF ps[0]? (ps.drop 1)
  rw [hp, scanF, if_neg (by rw [(pfE_iff hpR.1.1).2 hpR]; decide), if_neg (by decide)]
theorem scan_next {ps : List Pf} {k : Nat} {p q : Pf} (h : ScanP ps (k + 1)) (hq : ps[k]? = some q) (hp : ps[k + 1]? = some p) (hpR : p.R) : (q.1.n < p.1.n → ScanP ps (k + 2)) ∧ (¬ q.1.n < p.1.n → scanF none ps = 7) := by
  obtain ⟨hk, hpe⟩ := List.getElem?_eq_some_iff.1 hp
  have e : scanF none ps = if decide (p.1.n ≤ q.1.n) then 7 else scanF (some p) (ps.drop (k + 2)) := by
    rw [h.2.2, List.drop_eq_getElem_cons hk, hpe]
    show scanF ps[k]? (p :: ps.drop (k + 2)) = _
    rw [hq, scanF, if_neg (by rw [(pfE_iff hpR.1.1).2 hpR]; decide)]
  refine ⟨fun hlt => ⟨take_R h.1 hp hpR, fun j x y hj hx hy => ?_, ?_⟩, fun hn => ?_⟩
  · by_cases hjk : j + 1 < k + 1
    · exact h.2.1 j x y hjk hx hy
    · have : j = k := by omega
      subst this
      rw [hq] at hx; rw [hp] at hy
      cases hx; cases hy; exact hlt
  · rw [e, if_neg (by rw [decide_eq_true_eq]; omega)]
    show _ = scanF ps[k + 1]? _
    rw [hp]
  · rw [e, if_pos (by rw [decide_eq_true_eq]; omega)]
theorem scan_end {ps : List Pf} {k : Nat} (h : ScanP ps k) (hk : ps.length ≤ k) : (∀ p ∈ ps, p.R) ∧ (∀ j p q, ps[j]? = some p → ps[j + 1]? = some q → p.1.n < q.1.n) ∧ scanF none ps = 0 := by
  obtain ⟨h1, h2, h3⟩ := h
  rw [List.take_of_length_le hk] at h1
  refine ⟨h1, fun j p q hp hq => h2 j p q ?_ hp hq, ?_⟩
  · have := (List.getElem?_eq_some_iff.1 hq).1; omega
  · rw [h3, List.drop_of_length_le hk]; cases prevOf ps k <;> rfl
theorem least_get : ∀ (l : List Bk), LeastL l ↔ ∀ j p q, l[j]? = some p → l[j + 1]? = some q → Apart p q
  | [] => ⟨fun _ j p q h => by simp at h, fun _ => trivial⟩
  | [x] => ⟨fun _ j p q _ h => by simp at h, fun _ => trivial⟩
  | x :: y :: r => by
    have ih := least_get (y :: r)
    constructor
    · rintro ⟨h1, h2⟩ j p q hp hq
      cases j with
      | zero => simp at hp hq; subst hp; subst hq; exact h1
      | succ j => exact ih.1 h2 j p q (by simpa using hp) (by simpa using hq)
    · intro h
      exact ⟨h 0 x y rfl rfl, ih.2 fun j p q hp hq => h (j + 1) p q (by simpa using hp) (by simpa using hq)⟩
open Classical in
noncomputable def setF (ps : List Pf) : Int := if scanF none ps ≠ 0 then scanF none ps else if LeastL (ps.map blk) then 0 else 16

theorem falls_of {ps : List Pf} {ys : List (Ad × Ad)} (hR : ∀ p ∈ ps, p.R) (hj : Joined ys (ps.map rgP)) : Falls (ys.reverse.map iv) (ps.map blk) ∧ rowsOf (ys.reverse.map iv) = ys.map rowA := by
  refine ⟨⟨hj.1, fun k => ?_⟩, ?_⟩
  · rw [← map_iv_rgP ps hR, List.map_reverse, inP_reverse]
    exact hj.2.1 k
  · unfold rowsOf
    rw [← List.map_reverse (l := ys.reverse), List.reverse_reverse, List.map_map]
    apply List.map_congr_left
    intro x _
    show (((x.1.n : Int)).toNat, ((x.2.n : Int) + 1).toNat) = (x.1.n, x.2.n + 1)
    rw [Int.toNat_natCast]
    congr 1
theorem blks_ok {ps : List Pf} (hR : ∀ p ∈ ps, p.R) : AlL (ps.map blk) ∧ ∀ b ∈ ps.map blk, OkB b := by
  constructor
  · intro b hb
    obtain ⟨p, hp, rfl⟩ := List.mem_map.1 hb
    exact (hR p hp).blk_ok.1
  · intro b hb
    obtain ⟨p, hp, rfl⟩ := List.mem_map.1 hb
    exact (hR p hp).blk_ok.2
theorem cuts_ok {l : List (Nat × Nat)} (h : ∀ x ∈ l, Row x) : ∀ b ∈ cuts l, Al b ∧ OkB b := by
  intro b hb
  obtain ⟨x, hx, h1, h2, h3⟩ := cuts_in l h b hb
  refine ⟨cuts_al l h b hb, ?_⟩
  have := (h x hx).2
  unfold OkB
  unfold OkX at *
  omega
theorem rows_R {ys : List (Ad × Ad)} (h : ∀ y ∈ ys, RgR y) : ∀ x ∈ ys.map rowA, Row x := by
  intro x hx
  obtain ⟨y, hy, rfl⟩ := List.mem_map.1 hx
  exact rowA_row (h y hy)
theorem map_blk_pfOf : ∀ (l : List Bk), (∀ b ∈ l, OkB b) → (l.map pfOf).map blk = l
  | [], _ => rfl
  | b :: r, h => by rw [List.map_cons, List.map_cons, blk_pfOf (h b List.mem_cons_self), map_blk_pfOf r (fun x hx => h x (List.mem_cons_of_mem _ hx))]
theorem map_pfOf_blk : ∀ (l : List Pf), (∀ p ∈ l, p.R) → (l.map blk).map pfOf = l
  | [], _ => rfl
  | b :: r, h => by rw [List.map_cons, List.map_cons, pfOf_blk (h b List.mem_cons_self), map_pfOf_blk r (fun x hx => h x (List.mem_cons_of_mem _ hx))]
theorem pfsOf_R {ys : List (Ad × Ad)} (h : ∀ y ∈ ys, RgR y) : ∀ p ∈ pfsOf (ys.map rowA), p.R := by
  intro p hp
  obtain ⟨b, hb, rfl⟩ := List.mem_map.1 hp
  obtain ⟨h1, h2⟩ := cuts_ok (rows_R h) b hb
  exact pfOf_R h1 h2
theorem leastP_same {ps : List Pf} {ys : List (Ad × Ad)} (hR : ∀ p ∈ ps, p.R) (hj : Joined ys (ps.map rgP)) : (pfsOf (ys.map rowA) = ps ↔ LeastL (ps.map blk)) ∧ (pfsOf (ys.map rowA)).length ≤ ps.length := by
  obtain ⟨h1, h2⟩ := falls_of hR hj
  obtain ⟨h3, h4⟩ := blks_ok hR
  have h5 := least_iff h1 h3 h4
  have h6 := cuts_le h1 h3 h4
  rw [h2] at h5 h6
  constructor
  · rw [← h5]
    constructor
    · intro h
      have := congrArg (List.map blk) h
      unfold pfsOf at this
      rwa [map_blk_pfOf _ (fun b hb => (cuts_ok (rows_R hj.2.2) b hb).2)] at this
    · intro h
      unfold pfsOf
      rw [h, map_pfOf_blk ps hR]
  · unfold pfsOf
    rw [List.length_map] at h6 ⊢
    exact h6
theorem order_n (a b : Ad) (w : World) (ha : a.U) (hb : b.U) : Calls Tryz.prog 21 #[adA a, adA b] w (GivesV (.int .i64 (cmpN a.n b.n)) w) := by
  have := order_any a.s a.hi a.lo b.s b.hi b.lo w ha.1.1 ha.1.2 ha.2.1 ha.2.2 hb.1.1 hb.1.2 hb.2.1 hb.2.2
  rwa [show cmpW (num a.hi a.lo) a.s (num b.hi b.lo) b.s = cmpN a.n b.n from cmpW_cmpN ha hb] at this
theorem compare_n (a b : Ad) (w : World) (ha : a.U) (hb : b.U) : Calls Tryz.prog 40 #[adA a, adA b] w (GivesV (.int .i64 (cmpN a.n b.n)) w) := by
  have := compare_any a.s a.hi a.lo b.s b.hi b.lo w ha.1.1 ha.1.2 ha.2.1 ha.2.2 hb.1.1 hb.1.2 hb.2.1 hb.2.2
  rwa [show cmpW (num a.hi a.lo) a.s (num b.hi b.lo) b.s = cmpN a.n b.n from cmpW_cmpN ha hb] at this
theorem cmpN_ge (a b : Nat) : decide (0 ≤ cmpN a b) = decide (b ≤ a) := by
  apply decide_eq_decide.2
  unfold cmpN
  repeat' split
  all_goals omega

set_option maxHeartbeats 4000000 in
theorem setFault_any (A : Option Addr) (n cap : Nat) (ps : List Pf) (w : World) (hS : SlE ePf w A n cap ps) (hn : n ≤ 1000) (hU : ∀ p ∈ ps, p.U) :
    Calls Tryz.prog 6 #[.slice A n cap] w (GivesV (.int .i64 (setF ps)) w) := by
  have hpl := Lib.hid hS.1
  replace hS := Lib.hid hS
  replace hU := Lib.hid hU
  have hn' : ¬ (1000 : Int) < n := by omega
  go_enter Tryz.func6, Tryz.ntmps6
  go_wp2_with fail
  go_loopw [11] (fun i wr => ∃ k : Nat, k ≤ n ∧ i = .int .i64 k ∧ Hid (ScanP ps k) ∧ Below w.heap.size w wr) (fun i _ => n - (intOf i).toNat)
  case atStart => exact ⟨0, by omega, rfl, Lib.hid (scan_start ps), Below.refl _ _⟩
  case round =>
    obtain ⟨k, hk, rfl, hI, hbw⟩ := hrel
    by_cases hlt : k < n
    · obtain ⟨p, hp⟩ : ∃ p, ps[k]? = some p := ⟨ps[k]'(by have := hpl.out; omega), List.getElem?_eq_getElem _⟩
      obtain ⟨g0, off, rfl, _, _⟩ := hS.out.at' hlt
      have hld := SlE.ld rowPf (hS.out.below hbw) hp
      replace hld : (ldT 41 (.pointer (some ⟨g0, off + k * 4, none⟩))).run Tryz.prog wr = .ok (.value (pfA p)) wr := hld
      have hpU := hU.out p (List.mem_of_getElem? hp)
      have hlt' : (k : Int) < n := by omega
      have hsw := hbw.size
      have S1 := stT_new rowPf (te := 41) wr wr.heap.size rfl [.bool false, .int .u64 0, .int .u64 0, .int .i64 0] (pfC p) rfl rfl (pfC_one p)
      have hsc := scan_at hI.out hp
      have hC := Blk.new wr (pfC p) 41
      replace hbw := hbw.alloc hsw (.cells (pfC p).toArray 41)
      have HF0 := fun w' => Lib.hid (prefixFault_any p.1.s p.1.hi p.1.lo p.2 w' hpU.1.1.1 hpU.1.1.2 hpU.1.2.1 hpU.1.2.2)
      have k1 := hC.ld rowPf rfl
      have hp0 := hp
      replace hp := Lib.hid hp
      obtain ⟨E, hE⟩ : ∃ E, E = pfE p := ⟨_, rfl⟩
      have HF : ∀ w', Hid (Calls Tryz.prog 20 #[pfA p] w' (GivesV (.int .i64 E) w')) := fun w' => by rw [hE]; exact HF0 w'
      rw [← hE] at hsc
      replace hE := Lib.hid hE
      replace hsc := Lib.hid hsc
      clear HF0 hp0
      go_wp2_with fail
      refine (HF _).out.mono ?_
      rintro e w2 ⟨rfl, hb2⟩
      replace hC := hC.below hb2
      replace hbw := hbw.trans (hb2.mono hbw.size)
      clear hb2 k1 S1 HF hld
      by_cases hE0 : E = 0
      · have hpR : p.R := (pfE_iff hpU.1).1 (by rw [← hE.out]; exact hE0)
        subst hE0
        cases k with
        | zero =>
          have hI2 := Lib.hid (scanP_zero hI.out hp.out hpR)
          clear hsc hpR
          go_wp2_with fail
          refine wx_begin (none) [] (by kernel_rfl) (fun u0 hb0' hz0' => ?_)
          replace hC := hC.below hb0'
          replace hbw := hbw.trans (hb0'.mono hbw.size)
          clear hb0' hz0'
          refine wx_pureZ 0 (some 21) (v := ?_) ?_ ?_; rotate_left; · (intro u; go_simp; try with_reducible rfl)
          try simp only [Act.put, gzD, gzE, gzF]
          refine wx_pureZ 1 (some 22) (v := ?_) ?_ ?_; rotate_left; · (intro u; go_simp; try with_reducible rfl)
          try simp only [Act.put, gzD, gzE, gzF]
          refine wx_pureZ 2 (some 23) (v := ?_) ?_ ?_; rotate_left; · (intro u; go_simp; try with_reducible rfl)
          try simp only [Act.put, gzD, gzE, gzF]
          refine wx_skipZ 3 (some 24) ?_
          try simp only [Act.put, gzD, gzE, gzF]
          refine wx_skipZ 4 (some 25) ?_
          try simp only [Act.put, gzD, gzE, gzF]
          refine wx_skipZ 5 (some 26) ?_
          try simp only [Act.put, gzD, gzE, gzF]
          refine wx_skipZ 6 (some 27) ?_
          try simp only [Act.put, gzD, gzE, gzF]
          refine wx_skipZ 7 (some 28) ?_
          try simp only [Act.put, gzD, gzE, gzF]
          refine wx_skipZ 8 (some 29) ?_
          try simp only [Act.put, gzD, gzE, gzF]
          refine wx_skipZ 9 (some 30) ?_
          try simp only [Act.put, gzD, gzE, gzF]
          refine wx_skipZ 10 (some 31) ?_
          try simp only [Act.put, gzD, gzE, gzF]
          refine wx_skipZ 11 (some 32) ?_
          try simp only [Act.put, gzD, gzE, gzF]
          refine wx_skipZ 12 (some 33) ?_
          try simp only [Act.put, gzD, gzE, gzF]
          refine wx_pureZ 13 (some 34) (v := ?_) ?_ ?_; rotate_left; · (intro u; go_simp; try with_reducible rfl)
          try simp only [Act.put, gzD, gzE, gzF]
          refine wx_done (by kernel_rfl) ?_ _
          skip
          go_wp2_with fail
          go_roundw
          case rel => exact ⟨1, by omega, by go_num, hI2, hbw⟩
          case measure => simp [intOf]; omega
        | succ k =>
          obtain ⟨q, hq⟩ : ∃ q, ps[k]? = some q := ⟨ps[k]'(by have := hpl.out; omega), List.getElem?_eq_getElem _⟩
          have hqU := hU.out q (List.mem_of_getElem? hq)
          have HO := fun w' => Lib.hid (order_n q.1 p.1 w' hqU.1 hpU.1)
          obtain ⟨hn1, hn2⟩ := scan_next hI.out hq hp.out hpR
          replace hq := Lib.hid hq
          have hk0 : (0 : Int) < (k : Int) + 1 := by omega
          have hwk : IntKind.i64.wrap (k : Int) = (k : Int) := IntWalk.i64_in _ (by omega)
          have hk2 : (k : Int) < n := by omega
          have hcl := cmpN_ge q.1.n p.1.n
          obtain ⟨c, hc⟩ : ∃ c, c = cmpN q.1.n p.1.n := ⟨_, rfl⟩
          rw [← hc] at HO hcl
          clear hc hsc hpR
          replace hcl := Lib.hid hcl
          replace hn1 := Lib.hid hn1
          replace hn2 := Lib.hid hn2
          go_wp2_with fail
          refine wx_begin (none) [] (by kernel_rfl) (fun u0 hb0' hz0' => ?_)
          replace hC := hC.below hb0'
          replace hbw := hbw.trans (hb0'.mono hbw.size)
          clear hb0' hz0'
          refine wx_pureZ 0 (some 21) (v := ?_) ?_ ?_; rotate_left; · (intro u; go_simp; try with_reducible rfl)
          try simp only [Act.put, gzD, gzE, gzF]
          refine wx_pureZ 1 (some 22) (v := ?_) ?_ ?_; rotate_left; · (intro u; go_simp; try with_reducible rfl)
          try simp only [Act.put, gzD, gzE, gzF]
          refine wx_pureZ 2 (some 23) (v := ?_) ?_ ?_; rotate_left; · (intro u; go_simp; try with_reducible rfl)
          try simp only [Act.put, gzD, gzE, gzF]
          refine wx_pureZ 3 (some 24) (v := ?_) ?_ ?_; rotate_left; · (intro u; go_simp; try with_reducible rfl)
          try simp only [Act.put, gzD, gzE, gzF]
          refine wx_pureZ 4 (some 25) (v := ?_) ?_ ?_; rotate_left; · (intro u; go_simp; try with_reducible rfl)
          try simp only [Act.put, gzD, gzE, gzF]
          refine wx_pureZ 5 (some 26) (v := ?_) ?_ ?_; rotate_left; · (intro u; go_simp; try with_reducible rfl)
          try simp only [Act.put, gzD, gzE, gzF]
          refine wx_pureZ 6 (some 27) (v := ?_) ?_ ?_; rotate_left; · (intro u; go_simp; try with_reducible rfl)
          try simp only [Act.put, gzD, gzE, gzF]
          refine wx_pureZ 7 (some 28) (v := ?_) ?_ ?_; rotate_left; · (intro u; go_simp; try with_reducible rfl)
          try simp only [Act.put, gzD, gzE, gzF]
          refine wx_takeZ 8 (some 29) (v := ?_) ?_ ?_; rotate_left; · (intro u hu; have k1 := (hC.gn hu).ldAt rowAd 0 (adC p.1) [.int .i64 p.2] rfl rfl; have k2 := SlE.ldAt rowAd ((hS.out.below hbw).keepG hu) hq.out 0 (adC q.1) [.int .i64 q.2] rfl rfl; replace k2 : (ldT 39 (.pointer (some ⟨g0, off + k * 4, none⟩))).run Tryz.prog u = .ok (.value (adA q.1)) u := k2; go_simp; try with_reducible rfl)
          try simp only [Act.put, gzD, gzE, gzF]
          refine wx_pureZ 9 (some 30) (v := ?_) ?_ ?_; rotate_left; · (intro u; go_simp; try with_reducible rfl)
          try simp only [Act.put, gzD, gzE, gzF]
          refine wx_takeZ 10 (some 31) (v := ?_) ?_ ?_; rotate_left; · (intro u hu; have k1 := (hC.gn hu).ldAt rowAd 0 (adC p.1) [.int .i64 p.2] rfl rfl; have k2 := SlE.ldAt rowAd ((hS.out.below hbw).keepG hu) hq.out 0 (adC q.1) [.int .i64 q.2] rfl rfl; replace k2 : (ldT 39 (.pointer (some ⟨g0, off + k * 4, none⟩))).run Tryz.prog u = .ok (.value (adA q.1)) u := k2; go_simp; try with_reducible rfl)
          try simp only [Act.put, gzD, gzE, gzF]
          refine wx_oneZ 11 (fun K hK => ?_)
          go_simp
          refine (HO _).out.mono ?_
          rintro e u1 ⟨rfl, hv1⟩
          refine hK _ _ (gbB hv1) ?_
          replace hC := hC.below hv1
          replace hbw := hbw.trans (hv1.mono hbw.size)
          clear hK K hv1
          try simp only [Act.put, gzD, gzE, gzF]
          refine wx_pureZ 12 (some 33) (v := ?_) ?_ ?_; rotate_left; · (intro u; go_simp; try with_reducible rfl)
          try simp only [Act.put, gzD, gzE, gzF]
          refine wx_pureZ 13 (some 34) (v := ?_) ?_ ?_; rotate_left; · (intro u; go_simp; try with_reducible rfl)
          try simp only [Act.put, gzD, gzE, gzF]
          refine wx_done (by kernel_rfl) ?_ _
          skip
          by_cases hqp : q.1.n < p.1.n
          · have HV : ¬ 0 ≤ c := by
              have h := hcl.out
              rw [decide_eq_false (show ¬ p.1.n ≤ q.1.n by omega)] at h
              exact of_decide_eq_false h
            have hI2 := Lib.hid (hn1.out hqp)
            clear hcl hn1 hn2 hqp
            go_wp2_with fail
            go_roundw
            case rel => exact ⟨k + 2, by omega, by go_num, hI2, hbw⟩
            case measure => simp [intOf]; omega
          · have HV : 0 ≤ c := by
              have h := hcl.out
              rw [decide_eq_true (show p.1.n ≤ q.1.n by omega)] at h
              exact of_decide_eq_true h
            have hfin := Lib.hid (show setF ps = 7 from by
              have h := hn2.out hqp
              unfold setF
              rw [if_pos (by rw [h]; decide), h])
            clear hcl hn1 hn2 hqp
            go_wp2_with fail
            go_ret
            exact ⟨by rw [hfin.out]; rfl, hbw⟩
      · have b0 : (E == 0) = false := by simp [hE0]
        have hfin := Lib.hid (show setF ps = E from by
          have h := hsc.out (by rw [hE.out] at hE0 ⊢; exact hE0)
          unfold setF
          rw [if_pos (by rw [h]; exact hE0), h])
        clear hE0 hsc
        go_wp2_with fail
        go_ret
        exact ⟨by rw [hfin.out]; rfl, hbw⟩

    · obtain ⟨hR, _, hz⟩ := scan_end hI.out (by have := hpl.out; omega)
      have HL := Lib.hid (leastOf_any A n cap ps wr (hS.out.below hbw) hn hR)
      replace hR := Lib.hid hR
      replace hz := Lib.hid hz
      go_wp2_with fail
      refine HL.out.mono ?_
      rintro e w2 ⟨ys, hy1, hy2, ⟨v2, rfl, ho2⟩, hb2⟩
      obtain ⟨A2, c2, rfl, hs2⟩ := ho2.sl
      have hlen := (leastP_same hR.out hy1).2
      have hiff := Lib.hid (leastP_same hR.out hy1).1
      have HE := Lib.hid (equalPf_any A2 A _ n c2 cap _ ps w2 hs2 (hS.out.below (hbw.trans (hb2.mono hbw.size))) (by have := hpl.out; omega) (by omega))
      clear HL hs2 ho2
      generalize hLL : (pfsOf (ys.map rowA)).length = L2 at *
      go_wp2_with fail
      refine HE.out.mono ?_
      rintro e w3 ⟨b, rfl, hb, hb3⟩
      replace hbw := hbw.trans ((hb2.trans (hb3.mono hb2.size)).mono hbw.size)
      replace hb := Lib.hid hb
      have hfin : Hid (setF ps = if b then 0 else 16) := Lib.hid (by
        unfold setF
        rw [if_neg (by rw [hz.out]; decide)]
        cases b
        · rw [if_neg (fun h => by have := hb.out.2 (hiff.out.2 h); cases this)]; rfl
        · rw [if_pos (hiff.out.1 (hb.out.1 rfl))]; rfl)
      clear HE hb hiff hb2 hb3
      cases b
      · replace hfin : Hid (setF ps = 16) := hfin
        go_wp2_with fail
        go_ret
        exact ⟨by rw [hfin.out]; rfl, hbw⟩
      · replace hfin : Hid (setF ps = 0) := hfin
        go_wp2_with fail
        go_ret
        exact ⟨by rw [hfin.out]; rfl, hbw⟩
end Go.Proofs.YtkldcmmlllkhkaaGreatDoor
