/- Times: their errors; the least and the greatest of four numbers; the sum of two bytes. -/
import Derived.Test.YtlnflihnmdpilaaFltB
namespace Go.Proofs.Ytlnflihnmdpilaa
open Go.RowKit
set_option linter.unusedVariables false
set_option linter.unusedSimpArgs false

/-- The error of times. -/
def tmF (x y z u : Int) : Int := if (1 ≤ x ∧ x ≤ 86400) ∧ (1 ≤ y ∧ y ≤ 86400) ∧ (1 ≤ z ∧ z ≤ 86400) ∧ (1 ≤ u ∧ u ≤ 86400) then 0 else 1
theorem tm_cases (x : Int) : x < 1 ∨ (1 ≤ x ∧ x ≤ 86400) ∨ 86400 < x := by omega
theorem tm_bad {x y z u : Int} (h : (x < 1 ∨ 86400 < x) ∨ (y < 1 ∨ 86400 < y) ∨ (z < 1 ∨ 86400 < z) ∨ (u < 1 ∨ 86400 < u)) : tmF x y z u = 1 := if_neg (by omega)

set_option maxHeartbeats 4000000 in
set_option maxRecDepth 100000 in
theorem checkTimes_any (x y z u : Int) (w : World) :
    Calls Try.prog 21 #[.agg #[.int .i64 x, .int .i64 y, .int .i64 z, .int .i64 u]] w (GivesV (.int .i64 (tmF x y z u)) w) := by
  have hb : Below w.heap.size w (w.alloc (.cells #[.int .i64 x, .int .i64 y, .int .i64 z, .int .i64 u] 47)) := (Below.refl _ _).alloc (Nat.le_refl _) _
  have x0 : ∀ W, (Instr.index 64 (.agg #[.int .i64 x, .int .i64 y, .int .i64 z, .int .i64 u]) (.int .i64 0)).run Try.prog W = .ok (.int .i64 x) W := fun _ => by kernel_rfl
  have x1 : ∀ W, (Instr.index 64 (.agg #[.int .i64 x, .int .i64 y, .int .i64 z, .int .i64 u]) (.int .i64 1)).run Try.prog W = .ok (.int .i64 y) W := fun _ => by kernel_rfl
  have x2 : ∀ W, (Instr.index 64 (.agg #[.int .i64 x, .int .i64 y, .int .i64 z, .int .i64 u]) (.int .i64 2)).run Try.prog W = .ok (.int .i64 z) W := fun _ => by kernel_rfl
  have x3 : ∀ W, (Instr.index 64 (.agg #[.int .i64 x, .int .i64 y, .int .i64 z, .int .i64 u]) (.int .i64 3)).run Try.prog W = .ok (.int .i64 u) W := fun _ => by kernel_rfl
  go_enter Try.func21, Try.ntmps21
  go_wp2_with fail
  refine wp_loop_rounds 5 ?_
  rw [rounds_succ]
  rcases tm_cases x with h | ⟨h0, k0⟩ | h
  · have HY := Lib.hid (show tmF x y z u = 1 from tm_bad (.inl (.inl h)))
    go_wp2_with fail
    go_ret
    exact ⟨by rw [HY.out]; rfl, hb⟩
  rotate_left
  · have HY := Lib.hid (show tmF x y z u = 1 from tm_bad (.inl (.inr h)))
    go_wp2_with fail
    go_ret
    exact ⟨by rw [HY.out]; rfl, hb⟩
  go_wp2_with fail
  rw [rounds_succ]
  rcases tm_cases y with h | ⟨h1, k1⟩ | h
  · have HY := Lib.hid (show tmF x y z u = 1 from tm_bad (.inr (.inl (.inl h))))
    go_wp2_with fail
    go_ret
    exact ⟨by rw [HY.out]; rfl, hb⟩
  rotate_left
  · have HY := Lib.hid (show tmF x y z u = 1 from tm_bad (.inr (.inl (.inr h))))
    go_wp2_with fail
    go_ret
    exact ⟨by rw [HY.out]; rfl, hb⟩
  go_wp2_with fail
  rw [rounds_succ]
  rcases tm_cases z with h | ⟨h2, k2⟩ | h
  · have HY := Lib.hid (show tmF x y z u = 1 from tm_bad (.inr (.inr (.inl (.inl h)))))
    go_wp2_with fail
    go_ret
    exact ⟨by rw [HY.out]; rfl, hb⟩
  rotate_left
  · have HY := Lib.hid (show tmF x y z u = 1 from tm_bad (.inr (.inr (.inl (.inr h)))))
    go_wp2_with fail
    go_ret
    exact ⟨by rw [HY.out]; rfl, hb⟩
  go_wp2_with fail
  rw [rounds_succ]
  rcases tm_cases u with h | ⟨h3, k3⟩ | h
  · have HY := Lib.hid (show tmF x y z u = 1 from tm_bad (.inr (.inr (.inr ((.inl h))))))
    go_wp2_with fail
    go_ret
    exact ⟨by rw [HY.out]; rfl, hb⟩
  rotate_left
  · have HY := Lib.hid (show tmF x y z u = 1 from tm_bad (.inr (.inr (.inr ((.inr h))))))
    go_wp2_with fail
    go_ret
    exact ⟨by rw [HY.out]; rfl, hb⟩
  go_wp2_with fail
  rw [rounds_succ]
  have HY := Lib.hid (show tmF x y z u = 0 from if_pos ⟨⟨h0, k0⟩, ⟨h1, k1⟩, ⟨h2, k2⟩, h3, k3⟩)
  go_wp2_with fail
  go_ret
  exact ⟨by rw [HY.out]; rfl, hb⟩

/-- The least of four numbers. -/
def minP (x y z u m : Int) : Prop := (m = x ∨ m = y ∨ m = z ∨ m = u) ∧ m ≤ x ∧ m ≤ y ∧ m ≤ z ∧ m ≤ u
set_option maxHeartbeats 4000000 in
set_option maxRecDepth 100000 in
theorem min_any (x y z u : Int) (p cap : Nat) (w : World) (t : TypeId) (hL : Blk w p [.int .i64 x, .int .i64 y, .int .i64 z, .int .i64 u] t) :
    Calls Try.prog 34 #[.slice (some ⟨p, 0, none⟩) 4 cap] w fun e w' => ∃ m : Int, e = .returned (.int .i64 m) ∧ minP x y z u m ∧ w = w' := by
  obtain ⟨c0, c1, c2, c3, _⟩ := hL.four
  go_enter Try.func34, Try.ntmps34
  go_wp2_with fail
  refine wp_loop_rounds 4 ?_
  rw [rounds_succ]
  go_wp2_with fail
  all_goals (rw [rounds_succ]; go_wp2_with fail)
  all_goals (rw [rounds_succ]; go_wp2_with fail)
  all_goals (rw [rounds_succ]; go_wp2_with fail)
  all_goals go_ret
  all_goals exact ⟨_, rfl, by unfold minP; omega, rfl⟩

/-- The greatest of four numbers. -/
def maxP (x y z u m : Int) : Prop := (m = x ∨ m = y ∨ m = z ∨ m = u) ∧ x ≤ m ∧ y ≤ m ∧ z ≤ m ∧ u ≤ m
set_option maxHeartbeats 4000000 in
set_option maxRecDepth 100000 in
theorem max_any (x y z u : Int) (p cap : Nat) (w : World) (t : TypeId) (hL : Blk w p [.int .i64 x, .int .i64 y, .int .i64 z, .int .i64 u] t) :
    Calls Try.prog 35 #[.slice (some ⟨p, 0, none⟩) 4 cap] w fun e w' => ∃ m : Int, e = .returned (.int .i64 m) ∧ maxP x y z u m ∧ w = w' := by
  obtain ⟨c0, c1, c2, c3, _⟩ := hL.four
  go_enter Try.func35, Try.ntmps35
  go_wp2_with fail
  refine wp_loop_rounds 4 ?_
  rw [rounds_succ]
  go_wp2_with fail
  all_goals (rw [rounds_succ]; go_wp2_with fail)
  all_goals (rw [rounds_succ]; go_wp2_with fail)
  all_goals (rw [rounds_succ]; go_wp2_with fail)
  all_goals go_ret
  all_goals exact ⟨_, rfl, by unfold maxP; omega, rfl⟩

set_option maxHeartbeats 4000000 in
set_option maxRecDepth 100000 in
theorem timesFault_any (x y z u : Int) (w : World) :
    Calls Try.prog 22 #[.agg #[.int .i64 x, .int .i64 y, .int .i64 z, .int .i64 u]] w (GivesV (.int .i64 (tmF x y z u)) w) := by
  have hb : Below w.heap.size w ((w.alloc (.cells #[.int .i64 x, .int .i64 y, .int .i64 z, .int .i64 u] 47)).alloc (.cells #[.int .i64 x, .int .i64 y, .int .i64 z, .int .i64 u] 3)) := ((Below.refl _ _).alloc (Nat.le_refl _) _).alloc (by simp) _
  have hL := Blk.new (w.alloc (.cells #[.int .i64 x, .int .i64 y, .int .i64 z, .int .i64 u] 47)) [.int .i64 x, .int .i64 y, .int .i64 z, .int .i64 u] 3
  simp at hL
  have H1 := Lib.hid (fun cap => min_any x y z u _ cap _ _ hL)
  have H2 := Lib.hid (fun cap => max_any x y z u _ cap _ _ hL)
  clear hL
  go_enter Try.func22, Try.ntmps22
  go_wp2_with fail
  refine (H1.out _).mono ?_
  rintro e w1 ⟨m, rfl, hm, rfl⟩
  by_cases h1 : m < 1
  · have HY := Lib.hid (show tmF x y z u = 1 from if_neg (by unfold minP at hm; omega))
    clear hm
    go_wp2_with fail
    go_ret
    exact ⟨by rw [HY.out]; rfl, hb⟩
  · replace hm := Lib.hid hm
    go_wp2_with fail
    refine (H2.out _).mono ?_
    rintro e w1 ⟨n, rfl, hn, rfl⟩
    by_cases h2 : 86400 < n
    · have HY := Lib.hid (show tmF x y z u = 1 from if_neg (by unfold maxP at hn; omega))
      clear hn
      go_wp2_with fail
      go_ret
      exact ⟨by rw [HY.out]; rfl, hb⟩
    · have HY := Lib.hid (show tmF x y z u = 0 from if_pos (by have := hm.out; unfold minP at this; unfold maxP at hn; omega))
      clear hn
      go_wp2_with fail
      go_ret
      exact ⟨by rw [HY.out]; rfl, hb⟩

set_option maxHeartbeats 400000 in
theorem sum_two (p cap : Nat) (w : World) (t : TypeId) (hL : Blk w p [.int .u8 0, .int .u8 1] t) :
    Calls Try.prog 28 #[.slice (some ⟨p, 0, none⟩) 2 cap] w fun e w' => e = .returned (.int .i64 65534) ∧ Below w.heap.size w w' := by
  have c0 : w.cell? ⟨p, 0, none⟩ = some (.int .u8 0) := hL.cell rfl
  have c1 : w.cell? ⟨p, 1, none⟩ = some (.int .u8 1) := hL.cell rfl
  go_enter Try.func28, Try.ntmps28
  go_wp2_with fail
  refine wp_loop_rounds 3 ?_
  rw [rounds_succ]
  go_wp2_with fail
  rw [rounds_succ]
  go_wp2_with fail
  rw [rounds_succ]
  go_wp2_with fail
  refine wp_loop_rounds 1 ?_
  rw [rounds_succ]
  go_wp2_with fail
  go_ret
  exact ⟨rfl, Below.refl _ _⟩

set_option maxHeartbeats 400000 in
theorem filtered_any (w : World) : Calls Try.prog 15 #[] w (GivesV (.bool true) w) := by
  have hL := Blk.new w [.int .u8 0, .int .u8 1] 5
  go_enter Try.func15, Try.ntmps15
  go_wp2_with fail
  refine (sum_two _ _ _ _ hL).mono ?_
  rintro e w1 ⟨rfl, hb1⟩
  go_wp2_with fail
  go_ret
  exact ⟨rfl, ((Below.refl _ _).alloc (Nat.le_refl _) _).trans (hb1.mono (by simp))⟩
end Go.Proofs.Ytlnflihnmdpilaa
