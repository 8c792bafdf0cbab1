/- The order of strings, and of lists of them. -/
import Derived.Test.YtmfflcemceonhaaDoorKfDcA
import Derived.Test.YtmfflcemceonhaaDoorKfNmG
namespace Go.Proofs.YtmfflcemceonhaaDoor
open Go.RowKit
set_option linter.unusedVariables false
set_option linter.unusedSimpArgs false

theorem isNaNS_any (x : List UInt8) (w : World) : Calls Tryd.prog 49 #[.string ⟨x.toArray⟩] w fun e w' => e = .returned (.bool false) ∧ w' = w := by
  go_enter Tryd.func49, Tryd.ntmps49
  go_wp2_with fail
  go_ret
  exact ⟨rfl, rfl⟩
theorem compareS_any (r : Int) (x y : List UInt8) (w : World) (hr : r = cmpS x y) :
    Calls Tryd.prog 34 #[.string ⟨x.toArray⟩, .string ⟨y.toArray⟩] w fun e w' => e = .returned (.int .i64 r) ∧ w' = w := by
  unfold cmpS at hr
  have HN := Lib.hid (fun x => isNaNS_any x w)
  cases h1 : Op.bytesLess x y
  · rw [h1, if_neg (by simp)] at hr
    cases h2 : (x == y)
    · rw [h2, if_neg (by simp)] at hr
      subst hr
      go_enter Tryd.func34, Tryd.ntmps34
      go_wp2_with fail
      refine (HN.out x).mono ?_
      rintro e w1 ⟨rfl, rfl⟩
      go_wp2_with fail
      refine (HN.out y).mono ?_
      rintro e w1 ⟨rfl, rfl⟩
      go_wp2_with fail
      go_ret
      exact ⟨rfl, rfl⟩
    · rw [h2, if_pos rfl] at hr
      subst hr
      go_enter Tryd.func34, Tryd.ntmps34
      go_wp2_with fail
      refine (HN.out x).mono ?_
      rintro e w1 ⟨rfl, rfl⟩
      go_wp2_with fail
      refine (HN.out y).mono ?_
      rintro e w1 ⟨rfl, rfl⟩
      go_wp2_with fail
      go_ret
      exact ⟨rfl, rfl⟩
  · rw [h1, if_pos rfl] at hr
    subst hr
    go_enter Tryd.func34, Tryd.ntmps34
    go_wp2_with fail
    refine (HN.out x).mono ?_
    rintro e w1 ⟨rfl, rfl⟩
    go_wp2_with fail
    refine (HN.out y).mono ?_
    rintro e w1 ⟨rfl, rfl⟩
    go_wp2_with fail
    go_ret
    exact ⟨rfl, rfl⟩

/-- An element of a slice of strings. -/
theorem SlE.str_at {w : World} {A : Option Addr} {n cap : Nat} {ls : List (List UInt8)} (h : SlE eStr w A n cap ls) {k : Nat} {p : List UInt8} (hp : ls[k]? = some p) : ∃ b off, A = some ⟨b, off, none⟩ ∧ b < w.heap.size ∧ w.cell? ⟨b, off + k, none⟩ = some (.string ⟨p.toArray⟩) := by
  have hk : k < n := by rw [h.1]; exact (List.getElem?_eq_some_iff.1 hp).1
  obtain ⟨g, off, hA, hg, hc⟩ := h.at' hk
  refine ⟨g, off, hA, hg, ?_⟩
  have := hc k p hp 0 (.string ⟨p.toArray⟩) rfl
  rw [show eStr.k = 1 from rfl, Nat.mul_one, Nat.add_zero] at this
  exact this

set_option maxHeartbeats 4000000 in
set_option maxRecDepth 100000 in
theorem compareLs_any (r : Int) (A B : Option Addr) (n m ca cb : Nat) (xs ys : List (List UInt8)) (w : World) (hA : SlE eStr w A n ca xs) (hB : SlE eStr w B m cb ys) (hn : n ≤ 1000000) (hm : m ≤ 1000000) (hr : r = cmpLs xs ys) :
    Calls Tryd.prog 17 #[.slice A n ca, .slice B m cb] w fun e w' => e = .returned (.int .i64 r) ∧ w' = w := by
  have hnl := Lib.hid hA.1
  have hml := Lib.hid hB.1
  replace hA := Lib.hid hA
  replace hB := Lib.hid hB
  replace hr := Lib.hid hr
  go_enter Tryd.func17, Tryd.ntmps17
  go_wp2_with fail
  go_loopw [11] (fun i wr => ∃ k : Nat, k ≤ n ∧ i = .int .i64 k ∧ wr = w ∧ Hid (r = cmpLs (xs.drop k) (ys.drop k))) (fun i _ => n - (intOf i).toNat)
  case atStart => exact ⟨0, Nat.zero_le _, rfl, rfl, Lib.hid hr.out⟩
  case round =>
    obtain ⟨k, hk, rfl, rfl, hI⟩ := hrel
    by_cases hlt : k < n
    · obtain ⟨x, hx⟩ : ∃ x, xs[k]? = some x := ⟨xs[k]'(by have := hnl.out; omega), List.getElem?_eq_getElem _⟩
      obtain ⟨g, off, rfl, _, hc⟩ := hA.out.str_at hx
      have hcap := hA.out.2.1
      have hlt' : (k : Int) < n := by omega
      by_cases hkm : k < m
      · obtain ⟨y, hy⟩ : ∃ y, ys[k]? = some y := ⟨ys[k]'(by have := hml.out; omega), List.getElem?_eq_getElem _⟩
        obtain ⟨g2, off2, rfl, _, hc2⟩ := hB.out.str_at hy
        have hcap2 := hB.out.2.1
        have hkm' : (k : Int) < m := by omega
        have hkm2 : ¬ (k : Int) ≥ m := by omega
        have hst := cmpLs_both hx hy
        rw [← hI.out] at hst
        have HC := Lib.hid (fun r hr => compareS_any r x y wr hr)
        cases hc0 : decide (cmpS x y = 0)
        · have hne := of_decide_eq_false hc0
          rw [if_neg hne] at hst
          have HC1 := Lib.hid (HC.out _ hst)
          have hr0 : ¬ r = 0 := by rw [hst]; exact hne
          clear HC hst hne hc0 hx hy hI
          go_wp2_with fail
          refine HC1.out.mono ?_
          rintro e w1 ⟨rfl, rfl⟩
          go_wp2_with fail
          go_ret
          exact ⟨rfl, rfl⟩
        · have he := of_decide_eq_true hc0
          rw [if_pos he] at hst
          have HC1 := Lib.hid (HC.out 0 he.symm)
          replace hst := Lib.hid hst
          clear HC he hc0 hx hy hI
          go_wp2_with fail
          refine HC1.out.mono ?_
          rintro e w1 ⟨rfl, rfl⟩
          go_wp2_with fail
          go_roundw
          case rel => exact ⟨k + 1, by omega, by go_num, trivial, Lib.hid hst.out⟩
          case measure => simp [intOf]; omega
      · have hst := cmpLs_right (xs := xs) (ys := ys) (k := k) (by have := hnl.out; omega) (by have := hml.out; omega)
        rw [← hI.out] at hst
        subst hst
        have hkm2 : (m : Int) ≤ k := by omega
        clear hI hx
        go_wp2_with fail
        go_ret
        exact ⟨rfl, rfl⟩
    · have hst := cmpLs_left (xs := xs) (ys := ys) (k := k) (by have := hnl.out; omega)
      rw [← hI.out] at hst
      have hkn : k = n := by omega
      by_cases hnm : m ≤ n
      · rw [if_pos (by have := hml.out; omega)] at hst
        subst hst
        have h2 : ¬ (n : Int) < m := by omega
        clear hI
        go_wp2_with fail
        go_ret
        exact ⟨rfl, rfl⟩
      · rw [if_neg (by have := hml.out; omega)] at hst
        subst hst
        have h2 : (n : Int) < m := by omega
        clear hI
        go_wp2_with fail
        go_ret
        exact ⟨rfl, rfl⟩
end Go.Proofs.YtmfflcemceonhaaDoor
