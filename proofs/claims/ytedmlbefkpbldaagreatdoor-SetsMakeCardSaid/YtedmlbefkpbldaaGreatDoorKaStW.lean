/- Sets: what is wrong with a list (pure). -/
import Derived.Test.YtedmlbefkpbldaaGreatDoorKaStV
import Derived.Test.YtedmlbefkpbldaaGreatDoorKaSiteB
namespace Go.Proofs.YtedmlbefkpbldaaGreatDoor
open Go.RowKit
set_option linter.unusedVariables false
set_option linter.unusedSimpArgs false

/-- What is wrong with a list, but for neighbours; the prefix ahead of it. -/
def scanF : Option Pf → List Pf → Int
  | _, [] => 0
  | o, p :: r => if pfE p ≠ 0 then pfE p else if (match o with | none => false | some q => decide (p.1.n ≤ q.1.n)) then 7 else scanF (some p) r
def prevOf (ps : List Pf) : Nat → Option Pf
  | 0 => none
  | k + 1 => ps[k]?
/-- What holds ahead of place k. -/
def ScanP (ps : List Pf) (k : Nat) : Prop := (∀ p ∈ ps.take k, p.R) ∧ (∀ j p q, j + 1 < k → ps[j]? = some p → ps[j + 1]? = some q → p.1.n < q.1.n) ∧ scanF none ps = scanF (prevOf ps k) (ps.drop k)
theorem scan_start (ps : List Pf) : ScanP ps 0 := ⟨fun p hp => by simp at hp, fun j p q h => by omega, rfl⟩
theorem scan_at {ps : List Pf} {k : Nat} {p : Pf} (h : ScanP ps k) (hp : ps[k]? = some p) : pfE p ≠ 0 → scanF none ps = pfE p := fun hE => by
  obtain ⟨hk, hpe⟩ := List.getElem?_eq_some_iff.1 hp
  rw [h.2.2, List.drop_eq_getElem_cons hk, hpe]
  unfold scanF
  rw [if_pos hE]
theorem take_R {ps : List Pf} {k : Nat} {p : Pf} (h : ∀ x ∈ ps.take k, x.R) (hp : ps[k]? = some p) (hpR : p.R) : ∀ x ∈ ps.take (k + 1), x.R := by
  intro x hx
  rw [List.take_add_one, hp] at hx
  rcases List.mem_append.1 hx with hx | hx
  · exact h x hx
  · simp at hx; rw [hx]; exact hpR
theorem scanP_zero {ps : List Pf} {p : Pf} (h : ScanP ps 0) (hp : ps[0]? = some p) (hpR : p.R) : ScanP ps 1 := by
  refine ⟨take_R h.1 hp hpR, fun j p q hj => by omega, ?_⟩
  obtain ⟨hk, hpe⟩ := List.getElem?_eq_some_iff.1 hp
  rw [h.2.2, List.drop_eq_getElem_cons hk, hpe]
  show scanF none (p :: ps.drop 1) = scanF ps[0]? (ps.drop 1)
  rw [hp, scanF, if_neg (by rw [(pfE_iff hpR.1.1).2 hpR]; decide), if_neg (by decide)]
theorem scan_next {ps : List Pf} {k : Nat} {p q : Pf} (h : ScanP ps (k + 1)) (hq : ps[k]? = some q) (hp : ps[k + 1]? = some p) (hpR : p.R) : (q.1.n < p.1.n → ScanP ps (k + 2)) ∧ (¬ q.1.n < p.1.n → scanF none ps = 7) := by
  obtain ⟨hk, hpe⟩ := List.getElem?_eq_some_iff.1 hp
  have e : scanF none ps = if decide (p.1.n ≤ q.1.n) then 7 else scanF (some p) (ps.drop (k + 2)) := by
    rw [h.2.2, List.drop_eq_getElem_cons hk, hpe]
    show scanF ps[k]? (p :: ps.drop (k + 2)) = _
    rw [hq, scanF, if_neg (by rw [(pfE_iff hpR.1.1).2 hpR]; decide)]
  refine ⟨fun hlt => ⟨take_R h.1 hp hpR, fun j x y hj hx hy => ?_, ?_⟩, fun hn => ?_⟩
  · by_cases hjk : j + 1 < k + 1
    · exact h.2.1 j x y hjk hx hy
    · have : j = k := by omega
      subst this
      rw [hq] at hx; rw [hp] at hy
      cases hx; cases hy; exact hlt
  · rw [e, if_neg (by rw [decide_eq_true_eq]; omega)]
    show _ = scanF ps[k + 1]? _
    rw [hp]
  · rw [e, if_pos (by rw [decide_eq_true_eq]; omega)]
theorem scan_end {ps : List Pf} {k : Nat} (h : ScanP ps k) (hk : ps.length ≤ k) : (∀ p ∈ ps, p.R) ∧ (∀ j p q, ps[j]? = some p → ps[j + 1]? = some q → p.1.n < q.1.n) ∧ scanF none ps = 0 := by
  obtain ⟨h1, h2, h3⟩ := h
  rw [List.take_of_length_le hk] at h1
  refine ⟨h1, fun j p q hp hq => h2 j p q ?_ hp hq, ?_⟩
  · have := (List.getElem?_eq_some_iff.1 hq).1; omega
  · rw [h3, List.drop_of_length_le hk]; cases prevOf ps k <;> rfl
/-- Least lists, by their neighbours. -/
theorem least_get : ∀ (l : List Bk), LeastL l ↔ ∀ j p q, l[j]? = some p → l[j + 1]? = some q → Apart p q
  | [] => ⟨fun _ j p q h => by simp at h, fun _ => trivial⟩
  | [x] => ⟨fun _ j p q _ h => by simp at h, fun _ => trivial⟩
  | x :: y :: r => by
    have ih := least_get (y :: r)
    constructor
    · rintro ⟨h1, h2⟩ j p q hp hq
      cases j with
      | zero => simp at hp hq; subst hp; subst hq; exact h1
      | succ j => exact ih.1 h2 j p q (by simpa using hp) (by simpa using hq)
    · intro h
      exact ⟨h 0 x y rfl rfl, ih.2 fun j p q hp hq => h (j + 1) p q (by simpa using hp) (by simpa using hq)⟩
open Classical in
/-- What is wrong with a set. -/
noncomputable def setF (ps : List Pf) : Int := if scanF none ps ≠ 0 then scanF none ps else if LeastL (ps.map blk) then 0 else 16

/-- The least prefixes of a list of right ones. -/
theorem falls_of {ps : List Pf} {ys : List (Ad × Ad)} (hR : ∀ p ∈ ps, p.R) (hj : Joined ys (ps.map rgP)) : Falls (ys.reverse.map iv) (ps.map blk) ∧ rowsOf (ys.reverse.map iv) = ys.map rowA := by
  refine ⟨⟨hj.1, fun k => ?_⟩, ?_⟩
  · rw [← map_iv_rgP ps hR, List.map_reverse, inP_reverse]
    exact hj.2.1 k
  · unfold rowsOf
    rw [← List.map_reverse (l := ys.reverse), List.reverse_reverse, List.map_map]
    apply List.map_congr_left
    intro x _
    show (((x.1.n : Int)).toNat, ((x.2.n : Int) + 1).toNat) = (x.1.n, x.2.n + 1)
    rw [Int.toNat_natCast]
    congr 1
theorem blks_ok {ps : List Pf} (hR : ∀ p ∈ ps, p.R) : AlL (ps.map blk) ∧ ∀ b ∈ ps.map blk, OkB b := by
  constructor
  · intro b hb
    obtain ⟨p, hp, rfl⟩ := List.mem_map.1 hb
    exact (hR p hp).blk_ok.1
  · intro b hb
    obtain ⟨p, hp, rfl⟩ := List.mem_map.1 hb
    exact (hR p hp).blk_ok.2
theorem cuts_ok {l : List (Nat × Nat)} (h : ∀ x ∈ l, Row x) : ∀ b ∈ cuts l, Al b ∧ OkB b := by
  intro b hb
  obtain ⟨x, hx, h1, h2, h3⟩ := cuts_in l h b hb
  refine ⟨cuts_al l h b hb, ?_⟩
  have := (h x hx).2
  unfold OkB
  unfold OkX at *
  omega
theorem rows_R {ys : List (Ad × Ad)} (h : ∀ y ∈ ys, RgR y) : ∀ x ∈ ys.map rowA, Row x := by
  intro x hx
  obtain ⟨y, hy, rfl⟩ := List.mem_map.1 hx
  exact rowA_row (h y hy)
theorem map_blk_pfOf : ∀ (l : List Bk), (∀ b ∈ l, OkB b) → (l.map pfOf).map blk = l
  | [], _ => rfl
  | b :: r, h => by rw [List.map_cons, List.map_cons, blk_pfOf (h b List.mem_cons_self), map_blk_pfOf r (fun x hx => h x (List.mem_cons_of_mem _ hx))]
theorem map_pfOf_blk : ∀ (l : List Pf), (∀ p ∈ l, p.R) → (l.map blk).map pfOf = l
  | [], _ => rfl
  | b :: r, h => by rw [List.map_cons, List.map_cons, pfOf_blk (h b List.mem_cons_self), map_pfOf_blk r (fun x hx => h x (List.mem_cons_of_mem _ hx))]
theorem pfsOf_R {ys : List (Ad × Ad)} (h : ∀ y ∈ ys, RgR y) : ∀ p ∈ pfsOf (ys.map rowA), p.R := by
  intro p hp
  obtain ⟨b, hb, rfl⟩ := List.mem_map.1 hp
  obtain ⟨h1, h2⟩ := cuts_ok (rows_R h) b hb
  exact pfOf_R h1 h2
/-- They are those of the list just if it is least; and no more. -/
theorem leastP_same {ps : List Pf} {ys : List (Ad × Ad)} (hR : ∀ p ∈ ps, p.R) (hj : Joined ys (ps.map rgP)) : (pfsOf (ys.map rowA) = ps ↔ LeastL (ps.map blk)) ∧ (pfsOf (ys.map rowA)).length ≤ ps.length := by
  obtain ⟨h1, h2⟩ := falls_of hR hj
  obtain ⟨h3, h4⟩ := blks_ok hR
  have h5 := least_iff h1 h3 h4
  have h6 := cuts_le h1 h3 h4
  rw [h2] at h5 h6
  constructor
  · rw [← h5]
    constructor
    · intro h
      have := congrArg (List.map blk) h
      unfold pfsOf at this
      rwa [map_blk_pfOf _ (fun b hb => (cuts_ok (rows_R hj.2.2) b hb).2)] at this
    · intro h
      unfold pfsOf
      rw [h, map_pfOf_blk ps hR]
  · unfold pfsOf
    rw [List.length_map] at h6 ⊢
    exact h6
theorem order_n (a b : Ad) (w : World) (ha : a.U) (hb : b.U) : Calls Tryz.prog 21 #[adA a, adA b] w (GivesV (.int .i64 (cmpN a.n b.n)) w) := by
  have := order_any a.s a.hi a.lo b.s b.hi b.lo w ha.1.1 ha.1.2 ha.2.1 ha.2.2 hb.1.1 hb.1.2 hb.2.1 hb.2.2
  rwa [show cmpW (num a.hi a.lo) a.s (num b.hi b.lo) b.s = cmpN a.n b.n from cmpW_cmpN ha hb] at this
theorem compare_n (a b : Ad) (w : World) (ha : a.U) (hb : b.U) : Calls Tryz.prog 71 #[adA a, adA b] w (GivesV (.int .i64 (cmpN a.n b.n)) w) := by
  have := compare_any a.s a.hi a.lo b.s b.hi b.lo w ha.1.1 ha.1.2 ha.2.1 ha.2.2 hb.1.1 hb.1.2 hb.2.1 hb.2.2
  rwa [show cmpW (num a.hi a.lo) a.s (num b.hi b.lo) b.s = cmpN a.n b.n from cmpW_cmpN ha hb] at this
theorem cmpN_ge (a b : Nat) : decide (0 ≤ cmpN a b) = decide (b ≤ a) := by
  apply decide_eq_decide.2
  unfold cmpN
  repeat' split
  all_goals omega
end Go.Proofs.YtedmlbefkpbldaaGreatDoor
