/- The program's LeastPorts. -/
import Derived.Test.YtigbbpgfblnboaaPlE
namespace Go.Proofs.Ytigbbpgfblnboaa
open Go.RowKit
set_option linter.unusedVariables false
set_option linter.unusedSimpArgs false

/-- What LeastPorts hands back. -/
def LeastGives (ps : List Pt) (w : World) (e : Ending) (w' : World) : Prop :=
  Below w.heap.size w w' ∧ ((ps.all rightB = false ∧ e = .returned (.tuple #[.slice none 0 0, .int .i64 1])) ∨
    (ps.all rightB = true ∧ ∃ (R : List Pt) (A' : Option Addr) (cap' : Nat), e = .returned (.tuple #[.slice A' R.length cap', .int .i64 0]) ∧ SlP w' A' R.length cap' R.reverse ∧ CanR 65536 R ∧ (∀ k, InP R k ↔ InP ps k) ∧ R.length ≤ 12))

theorem all_bad {ps : List Pt} {k : Nat} {p : Pt} (h : ps[k]? = some p) (hr : rightB p = false) : ps.all rightB = false := by
  cases e : ps.all rightB
  · rfl
  · have := List.all_eq_true.1 e p (List.mem_of_getElem? h)
    rw [hr] at this; cases this

theorem need_any (q : Bool) (x : Int) (w : World) : Calls Try.prog 34 #[.bool q, .int .i64 x] w (GivesV (.int .i64 (if q then 0 else x)) w) := by
  cases q
  all_goals
    go_enter Try.func34, Try.ntmps34
    go_wp2_with fail
    go_ret
    exact ⟨rfl, Below.refl _ _⟩

set_option maxRecDepth 100000 in
theorem leastRight_any (x y : Int) (w : World) :
    Calls Try.prog 33 #[.agg #[.int .i64 x, .int .i64 y]] w (GivesV (.int .i64 (if rightB (x, y) then 0 else 1)) w) := by
  have HI1 := Lib.hid (fun w' => isRight_any x y w')
  have HN0 := Lib.hid (fun w' => need_any false 1 w')
  have HN1 := Lib.hid (fun w' => need_any true 1 w')
  have hb0 : Below w.heap.size w (w.alloc (.cells #[.int .i64 x, .int .i64 y] 29)) := (Below.refl _ _).alloc (Nat.le_refl _) _
  generalize rightB (x, y) = q at HI1
  cases q
  · rw [if_neg (by simp)]
    go_enter Try.func33, Try.ntmps33
    go_wp2_with fail
    refine (HI1.out _).mono ?_
    rintro e w2 ⟨rfl, hb2⟩
    have hbw2 := hb0.trans (hb2.mono hb0.size)
    clear hb2 hb0 HI1
    go_wp2_with fail
    refine (HN0.out _).mono ?_
    rintro e w3 ⟨rfl, hb3⟩
    have hbw3 := hbw2.trans (hb3.mono hbw2.size)
    clear hb3 hbw2
    go_wp2_with fail
    go_ret
    exact ⟨rfl, hbw3⟩
  · rw [if_pos rfl]
    go_enter Try.func33, Try.ntmps33
    go_wp2_with fail
    refine (HI1.out _).mono ?_
    rintro e w2 ⟨rfl, hb2⟩
    have hbw2 := hb0.trans (hb2.mono hb0.size)
    clear hb2 hb0 HI1
    go_wp2_with fail
    refine (HN1.out _).mono ?_
    rintro e w3 ⟨rfl, hb3⟩
    have hbw3 := hbw2.trans (hb3.mono hbw2.size)
    clear hb3 hbw2
    go_wp2_with fail
    go_ret
    exact ⟨rfl, hbw3⟩

set_option maxHeartbeats 4000000 in
set_option maxRecDepth 100000 in
theorem each_any (r : Int) (A : Option Addr) (n cap : Nat) (ps : List Pt) (w : World) (hS : SlP w A n cap ps) (hn : n ≤ 12) (hr : r = if ps.all rightB then 0 else 1) :
    Calls Try.prog 36 #[.slice A n cap, .int .i64 1000, .func (.func 33) #[] #[]] w (GivesV (.int .i64 r) w) := by
  replace hr := Lib.hid hr
  obtain ⟨h1, h2, h3⟩ := hS
  have h3 := Lib.hid h3
  replace h1 := Lib.hid h1
  have HI := Lib.hid (fun a b w' => leastRight_any a b w')
  have hn' : (n : Int) ≤ 1000 := by omega
  go_enter Try.func36, Try.ntmps36
  go_wp2_with fail
  go_loopw [16] (fun i wr => ∃ k : Nat, k ≤ n ∧ i = .int .i64 k ∧ Below w.heap.size w wr ∧ Hid ((ps.take k).all rightB = true)) (fun i _ => n - (intOf i).toNat)
  case atStart => exact ⟨0, by omega, rfl, Below.refl _ _, Lib.hid (by simp)⟩
  case round =>
    obtain ⟨k, hk, rfl, hbw, hG⟩ := hrel
    by_cases hlt : k < n
    · skip
      obtain ⟨p, hp⟩ : ∃ p, ps[k]? = some p := ⟨ps[k]'(by have := h1.out; omega), List.getElem?_eq_getElem _⟩
      obtain ⟨b, off, rfl, hb, hc⟩ : ∃ b off, A = some ⟨b, off, none⟩ ∧ b < w.heap.size ∧ ∀ j p, ps[j]? = some p → w.cell? ⟨b, off + j * 2, none⟩ = some (.int .i64 p.1) ∧ w.cell? ⟨b, off + j * 2 + 1, none⟩ = some (.int .i64 p.2) := by
        rcases h3.out with h | h
        · omega
        · exact h
      obtain ⟨x, y⟩ := p
      obtain ⟨q0, q1⟩ := hc k (x, y) hp
      have r0 : wr.cell? ⟨b, off + k * 2, none⟩ = some (.int .i64 x) := by rw [hbw.cell (by exact hb)]; exact q0
      have r1 : wr.cell? ⟨b, off + k * 2 + 1, none⟩ = some (.int .i64 y) := by rw [hbw.cell (by exact hb)]; exact q1
      have hlt' : (k : Int) < n := by omega
      have hsw := hbw.size
      clear q0 q1
      have hH := Lib.hid (all_take hp hG.out)
      have hBad := Lib.hid (all_bad hp)
      have HI1 := Lib.hid (HI.out x y)
      clear hc hp hG
      have hbw1 := hbw.alloc hsw (.cells #[.int .i64 x, .int .i64 y] 29)
      go_wp2_with fail
      refine (HI1.out _).mono ?_
      rintro e w2 ⟨rfl, hb2⟩
      have hbw2 := hbw1.trans (hb2.mono hbw1.size)
      clear hb2 hbw1 hbw
      generalize rightB (x, y) = q at hH hBad
      cases q
      · have HY := Lib.hid (hBad.out rfl)
        clear HI1
        go_wp2_with fail
        go_ret
        exact ⟨by rw [hr.out, HY.out]; rfl, hbw2⟩
      · clear hBad HI1
        go_wp2_with fail
        go_roundw
        case rel => exact ⟨k + 1, by omega, by go_num, hbw2, hH⟩
        case measure => simp [intOf]; omega
    · have hall : Hid (ps.all rightB = true) := Lib.hid (by have := hG.out; rw [List.take_of_length_le (by have := h1.out; omega)] at this; exact this)
      clear hG
      go_wp2_with fail
      go_ret
      exact ⟨by rw [hr.out, hall.out]; rfl, hbw⟩

set_option maxHeartbeats 4000000 in
set_option maxRecDepth 100000 in
theorem leastPorts_any (A : Option Addr) (n cap : Nat) (ps : List Pt) (w : World) (hS : SlP w A n cap ps) (hn : n ≤ 12) :
    Calls Try.prog 10 #[.slice A n cap] w (LeastGives ps w) := by
  have HJ := Lib.hid (fun (w' : World) (hb : Below w.heap.size w w') (hr : ps.all rightB = true) => join_any A n cap ps w' (hS.below hb) hn hr)
  have HE := fun r hr => each_any r A n cap ps w hS hn hr
  clear hS
  cases hall : ps.all rightB
  · replace HE := Lib.hid (HE 1 (by rw [hall]; rfl))
    replace hall := Lib.hid hall
    clear HJ
    go_enter Try.func10, Try.ntmps10
    go_wp2_with fail
    refine HE.out.mono ?_
    rintro e w1 ⟨rfl, hbw⟩
    clear HE
    go_wp2_with fail
    refine bodyPost_ret (v := .tuple #[.slice none 0 0, .int .i64 1]) ?_ rfl ⟨hbw, .inl ⟨hall.out, rfl⟩⟩
    simp [results, Try.results10, go_sem]
  · replace HE := Lib.hid (HE 0 (by rw [hall]; rfl))
    replace HJ := Lib.hid (fun w' hb => HJ.out w' hb hall)
    replace hall := Lib.hid hall
    go_enter Try.func10, Try.ntmps10
    go_wp2_with fail
    refine HE.out.mono ?_
    rintro e w1 ⟨rfl, hbw⟩
    have HJ1 := Lib.hid (HJ.out _ hbw)
    clear HE HJ
    go_wp2_with fail
    refine HJ1.out.mono ?_
    rintro e w2 ⟨R, A', cap', rfl, hSr, j1, j2, j3, hb2⟩
    have hbw2 := hbw.trans (hb2.mono hbw.size)
    have hfin := Lib.hid (show SlP w2 A' R.length cap' R.reverse ∧ CanR 65536 R ∧ (∀ k, InP R k ↔ InP ps k) ∧ R.length ≤ 12 from ⟨hSr, j1, j2, j3⟩)
    clear hSr j1 j2 j3 hb2 HJ1
    go_wp2_with fail
    refine bodyPost_ret (v := .tuple #[.slice A' R.length cap', .int .i64 0]) ?_ rfl ⟨hbw2, .inr ⟨hall.out, R, A', cap', rfl, hfin.out⟩⟩
    simp [results, Try.results10, go_sem]
end Go.Proofs.Ytigbbpgfblnboaa
