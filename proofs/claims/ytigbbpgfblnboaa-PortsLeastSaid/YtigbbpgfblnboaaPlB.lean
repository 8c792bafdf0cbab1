/- Slices of ranges of ports: how they lie in memory; AnyPorts. -/
import Derived.Test.YtigbbpgfblnboaaPlA
import Derived.Test.YtigbbpgfblnboaaPkFlt
import Derived.Test.YtigbbpgfblnboaaWaysX
import Derived.Test.YtigbbpgfblnboaaGen
import Derived.Deep.DeepCutAuto
namespace Go.Proofs.Ytigbbpgfblnboaa
open Go.RowKit
set_option linter.unusedVariables false
set_option linter.unusedSimpArgs false

/-- A slice that reads as a list of ranges. -/
def SlP (w : World) (A : Option Addr) (n cap : Nat) (ps : List Pt) : Prop :=
  n = ps.length ∧ n ≤ cap ∧ (n = 0 ∨ ∃ g off, A = some ⟨g, off, none⟩ ∧ g < w.heap.size ∧ ∀ j p, ps[j]? = some p → w.cell? ⟨g, off + j * 2, none⟩ = some (.int .i64 p.1) ∧ w.cell? ⟨g, off + j * 2 + 1, none⟩ = some (.int .i64 p.2))
theorem SlP.below {w w' : World} {A : Option Addr} {n cap : Nat} {ps : List Pt} (h : SlP w A n cap ps) (hb : Below w.heap.size w w') : SlP w' A n cap ps := by
  obtain ⟨h1, h2, h3⟩ := h
  refine ⟨h1, h2, ?_⟩
  rcases h3 with h3 | ⟨g, off, hA, hg, hc⟩
  · exact .inl h3
  · refine .inr ⟨g, off, hA, by have := hb.size; omega, fun j p hp => ?_⟩
    rw [hb.cell (by exact hg), hb.cell (by exact hg)]
    exact hc j p hp

/-- A range of ports that is right. -/
def rightB (p : Pt) : Bool := decide (0 ≤ p.1 ∧ p.1 ≤ p.2 ∧ p.2 ≤ 65535)
/-- The error of ranges. -/
def anyF (ps : List Pt) : Int := if ps.all rightB then 0 else 1

theorem all_take {ps : List Pt} {k : Nat} {p : Pt} (h : ps[k]? = some p) (ha : (ps.take k).all rightB = true) : (ps.take (k + 1)).all rightB = rightB p := by
  rw [List.take_add_one, h, List.all_append, ha]; simp
theorem anyF_bad {ps : List Pt} {k : Nat} {p : Pt} (h : ps[k]? = some p) (hr : rightB p = false) : anyF ps = 1 := by
  unfold anyF
  rw [if_neg]
  intro ha
  have := List.all_eq_true.1 ha p (List.mem_of_getElem? h)
  rw [hr] at this; cases this
theorem anyF_ok {ps : List Pt} (ha : ps.all rightB = true) : anyF ps = 0 := if_pos ha

theorem rightB_in (x y : Int) : rightB (x, y) = (inB x 0 y && decide (y ≤ 65535)) := by
  unfold rightB inB
  rw [Bool.eq_iff_iff]
  simp
  omega

set_option maxHeartbeats 2000000 in
set_option maxRecDepth 100000 in
theorem anyPorts_any (A : Option Addr) (n cap : Nat) (ps : List Pt) (w : World) (hS : SlP w A n cap ps) (hn : n ≤ 1000) :
    Calls Try.prog 11 #[.slice A n cap] w (GivesV (.int .i64 (anyF ps)) w) := by
  obtain ⟨h1, h2, h3⟩ := hS
  have h3 := Lib.hid h3
  replace h1 := Lib.hid h1
  have HI := Lib.hid (fun a b w' => in_any a 0 b w')
  go_enter Try.func11, Try.ntmps11
  go_wp2_with fail
  go_loopw [10] (fun i wr => ∃ k : Nat, k ≤ n ∧ i = .int .i64 k ∧ Below w.heap.size w wr ∧ Hid ((ps.take k).all rightB = true)) (fun i _ => n - (intOf i).toNat)
  case atStart => exact ⟨0, by omega, rfl, Below.refl _ _, Lib.hid (by simp)⟩
  case round =>
    obtain ⟨k, hk, rfl, hbw, hG⟩ := hrel
    by_cases hlt : k < n
    · skip
      obtain ⟨p, hp⟩ : ∃ p, ps[k]? = some p := ⟨ps[k]'(by have := h1.out; omega), List.getElem?_eq_getElem _⟩
      obtain ⟨b, off, rfl, hb, hc⟩ : ∃ b off, A = some ⟨b, off, none⟩ ∧ b < w.heap.size ∧ ∀ j p, ps[j]? = some p → w.cell? ⟨b, off + j * 2, none⟩ = some (.int .i64 p.1) ∧ w.cell? ⟨b, off + j * 2 + 1, none⟩ = some (.int .i64 p.2) := by
        rcases h3.out with h | h
        · omega
        · exact h
      obtain ⟨x, y⟩ := p
      obtain ⟨q0, q1⟩ := hc k (x, y) hp
      have r0 : wr.cell? ⟨b, off + k * 2, none⟩ = some (.int .i64 x) := by rw [hbw.cell (by exact hb)]; exact q0
      have r1 : wr.cell? ⟨b, off + k * 2 + 1, none⟩ = some (.int .i64 y) := by rw [hbw.cell (by exact hb)]; exact q1
      have hlt' : (k : Int) < n := by omega
      have hsw := hbw.size
      clear q0 q1
      have hH := Lib.hid (all_take hp hG.out)
      have hBad := Lib.hid (anyF_bad hp)
      rw [rightB_in] at hH hBad
      have HI1 := Lib.hid (HI.out x y)
      clear hc hp hG
      have hbw1 := hbw.alloc hsw (.cells #[.int .i64 x, .int .i64 y] 29)
      go_wp2_with fail
      refine (HI1.out _).mono ?_
      rintro e w2 ⟨rfl, rfl⟩
      generalize inB x 0 y = q at hH hBad
      cases q
      · have HY := Lib.hid (hBad.out rfl)
        go_wp2_with fail
        go_ret
        exact ⟨by rw [HY.out]; rfl, hbw1⟩
      · by_cases hy : 65535 < y
        · have HY := Lib.hid (hBad.out (by rw [decide_eq_false (by omega)]; rfl))
          go_wp2_with fail
          go_ret
          exact ⟨by rw [HY.out]; rfl, hbw1⟩
        · replace hH := Lib.hid (hH.out.trans (by rw [decide_eq_true (by omega)]))
          clear hBad
          go_wp2_with fail
          go_roundw
          case rel => exact ⟨k + 1, by omega, by go_num, hbw1, hH⟩
          case measure => simp [intOf]; omega
    · have HY := Lib.hid (anyF_ok (ps := ps) (by have := hG.out; rw [List.take_of_length_le (by have := h1.out; omega)] at this; exact this))
      clear hG
      go_wp2_with fail
      go_ret
      exact ⟨by rw [HY.out]; rfl, hbw⟩

set_option maxHeartbeats 400000 in
theorem isRight_any (x y : Int) (w : World) :
    Calls Try.prog 35 #[.agg #[.int .i64 x, .int .i64 y]] w (GivesV (.bool (rightB (x, y))) w) := by
  have hb : Below w.heap.size w (w.alloc (.cells #[.int .i64 x, .int .i64 y] 29)) := (Below.refl _ _).alloc (Nat.le_refl _) _
  by_cases h0 : 0 ≤ x
  · by_cases h1 : x ≤ y
    · by_cases h2 : y ≤ 65535
      · have HX := Lib.hid (show rightB (x, y) = true from decide_eq_true ⟨h0, h1, h2⟩)
        go_enter Try.func35, Try.ntmps35
        go_wp2_with fail
        go_ret
        exact ⟨by rw [HX.out]; rfl, hb⟩
      · have HX := Lib.hid (show rightB (x, y) = false from decide_eq_false (fun h => h2 h.2.2))
        go_enter Try.func35, Try.ntmps35
        go_wp2_with fail
        go_ret
        exact ⟨by rw [HX.out]; rfl, hb⟩
    · have HX := Lib.hid (show rightB (x, y) = false from decide_eq_false (fun h => h1 h.2.1))
      go_enter Try.func35, Try.ntmps35
      go_wp2_with fail
      go_ret
      exact ⟨by rw [HX.out]; rfl, hb⟩
  · have HX := Lib.hid (show rightB (x, y) = false from decide_eq_false (fun h => h0 h.1))
    go_enter Try.func35, Try.ntmps35
    go_wp2_with fail
    go_ret
    exact ⟨by rw [HX.out]; rfl, hb⟩
end Go.Proofs.Ytigbbpgfblnboaa
