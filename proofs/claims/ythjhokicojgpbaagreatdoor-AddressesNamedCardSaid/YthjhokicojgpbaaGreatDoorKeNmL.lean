/- strconv.ParseUint to base 16, numbers of 64 bits. -/
import Derived.Test.YthjhokicojgpbaaGreatDoorKeNmK
import Derived.Test.YthjhokicojgpbaaGreatDoorKePsPl
import Derived.Lib.ParseIntBMem
namespace Go.Proofs.YthjhokicojgpbaaGreatDoor
open Go.RowKit
set_option linter.unusedVariables false
set_option linter.unusedSimpArgs false

theorem lowerN_any (c : Int) (w : World) : Calls Tryz.prog 240 #[.int .u8 c] w fun e w' => e = .returned (.int .u8 (bits .or .u8 c 32)) ∧ w = w' := (Tryz.internal_strconv_lower c w).mono fun e w' h => ⟨h.1, h.2.symm⟩
theorem convN_str (w : World) (l : List UInt8) : (convert 9 130 (.string ⟨l.toArray⟩)).run Tryz.prog w = .ok (.slice (some ⟨w.heap.size, 0, none⟩) l.length (grownCap w l.length 0 5)) (Lib.bytesWorld w 5 ⟨l.toArray⟩) := by
  have h := Lib.run_convert_string_bytes (P := Tryz.prog) w 9 130 5 ⟨l.toArray⟩ (u := .string) (by kernel_rfl) (by kernel_rfl) (by kernel_rfl)
  rw [Lib.size_eq] at h
  exact h

set_option maxHeartbeats 2000000 in
set_option maxRecDepth 100000 in
theorem p64_0 (w : World) : Calls Tryz.prog 205 #[.string ⟨#[48]⟩, .int .i64 16, .int .i64 64] w fun e w' => e = .returned (.tuple #[.int .u64 0, .nilIface]) ∧ Below w.heap.size w w' := by
  obtain ⟨M, hM⟩ : ∃ M : Int, M = 18446744073709551615 := ⟨_, rfl⟩
  have w1 : IntKind.u64.wrap (-1) = M := by rw [IntKind.wrap_u64, hM]; rfl
  have hM0 : ¬ M < 0 := by rw [hM]; decide
  have hM1 : 0 ≤ M := by rw [hM]; decide
  have hcv := convN_str w [48]
  have hB := Lib.bytesWorld_cell w 5 ⟨#[48]⟩ 0 (by decide)
  have hb := Lib.bytesWorld_below w 5 ⟨#[48]⟩
  replace hb := Lib.hid hb
  clear hM
  go_enter Tryz.func205, Tryz.ntmps205
  go_wp2_with fail
  refine wp_loop_rounds 2 ?_
  rw [rounds_succ]
  go_wp2_with fail
  rw [rounds_succ]
  go_wp2_with fail
  go_ret2
  exact ⟨rfl, hb.out⟩

set_option maxHeartbeats 2000000 in
set_option maxRecDepth 100000 in
theorem p64_1 (w : World) : Calls Tryz.prog 205 #[.string ⟨#[49]⟩, .int .i64 16, .int .i64 64] w fun e w' => e = .returned (.tuple #[.int .u64 1, .nilIface]) ∧ Below w.heap.size w w' := by
  obtain ⟨M, hM⟩ : ∃ M : Int, M = 18446744073709551615 := ⟨_, rfl⟩
  have w1 : IntKind.u64.wrap (-1) = M := by rw [IntKind.wrap_u64, hM]; rfl
  have hM0 : ¬ M < 1 := by rw [hM]; decide
  have hM1 : 1 ≤ M := by rw [hM]; decide
  have hcv := convN_str w [49]
  have hB := Lib.bytesWorld_cell w 5 ⟨#[49]⟩ 0 (by decide)
  have hb := Lib.bytesWorld_below w 5 ⟨#[49]⟩
  replace hb := Lib.hid hb
  clear hM
  go_enter Tryz.func205, Tryz.ntmps205
  go_wp2_with fail
  refine wp_loop_rounds 2 ?_
  rw [rounds_succ]
  go_wp2_with fail
  rw [rounds_succ]
  go_wp2_with fail
  go_ret2
  exact ⟨rfl, hb.out⟩

set_option maxHeartbeats 2000000 in
set_option maxRecDepth 100000 in
theorem p64_2 (w : World) : Calls Tryz.prog 205 #[.string ⟨#[50]⟩, .int .i64 16, .int .i64 64] w fun e w' => e = .returned (.tuple #[.int .u64 2, .nilIface]) ∧ Below w.heap.size w w' := by
  obtain ⟨M, hM⟩ : ∃ M : Int, M = 18446744073709551615 := ⟨_, rfl⟩
  have w1 : IntKind.u64.wrap (-1) = M := by rw [IntKind.wrap_u64, hM]; rfl
  have hM0 : ¬ M < 2 := by rw [hM]; decide
  have hM1 : 2 ≤ M := by rw [hM]; decide
  have hcv := convN_str w [50]
  have hB := Lib.bytesWorld_cell w 5 ⟨#[50]⟩ 0 (by decide)
  have hb := Lib.bytesWorld_below w 5 ⟨#[50]⟩
  replace hb := Lib.hid hb
  clear hM
  go_enter Tryz.func205, Tryz.ntmps205
  go_wp2_with fail
  refine wp_loop_rounds 2 ?_
  rw [rounds_succ]
  go_wp2_with fail
  rw [rounds_succ]
  go_wp2_with fail
  go_ret2
  exact ⟨rfl, hb.out⟩

set_option maxHeartbeats 2000000 in
set_option maxRecDepth 100000 in
theorem p64_3 (w : World) : Calls Tryz.prog 205 #[.string ⟨#[51]⟩, .int .i64 16, .int .i64 64] w fun e w' => e = .returned (.tuple #[.int .u64 3, .nilIface]) ∧ Below w.heap.size w w' := by
  obtain ⟨M, hM⟩ : ∃ M : Int, M = 18446744073709551615 := ⟨_, rfl⟩
  have w1 : IntKind.u64.wrap (-1) = M := by rw [IntKind.wrap_u64, hM]; rfl
  have hM0 : ¬ M < 3 := by rw [hM]; decide
  have hM1 : 3 ≤ M := by rw [hM]; decide
  have hcv := convN_str w [51]
  have hB := Lib.bytesWorld_cell w 5 ⟨#[51]⟩ 0 (by decide)
  have hb := Lib.bytesWorld_below w 5 ⟨#[51]⟩
  replace hb := Lib.hid hb
  clear hM
  go_enter Tryz.func205, Tryz.ntmps205
  go_wp2_with fail
  refine wp_loop_rounds 2 ?_
  rw [rounds_succ]
  go_wp2_with fail
  rw [rounds_succ]
  go_wp2_with fail
  go_ret2
  exact ⟨rfl, hb.out⟩

set_option maxHeartbeats 2000000 in
set_option maxRecDepth 100000 in
theorem p64_4 (w : World) : Calls Tryz.prog 205 #[.string ⟨#[52]⟩, .int .i64 16, .int .i64 64] w fun e w' => e = .returned (.tuple #[.int .u64 4, .nilIface]) ∧ Below w.heap.size w w' := by
  obtain ⟨M, hM⟩ : ∃ M : Int, M = 18446744073709551615 := ⟨_, rfl⟩
  have w1 : IntKind.u64.wrap (-1) = M := by rw [IntKind.wrap_u64, hM]; rfl
  have hM0 : ¬ M < 4 := by rw [hM]; decide
  have hM1 : 4 ≤ M := by rw [hM]; decide
  have hcv := convN_str w [52]
  have hB := Lib.bytesWorld_cell w 5 ⟨#[52]⟩ 0 (by decide)
  have hb := Lib.bytesWorld_below w 5 ⟨#[52]⟩
  replace hb := Lib.hid hb
  clear hM
  go_enter Tryz.func205, Tryz.ntmps205
  go_wp2_with fail
  refine wp_loop_rounds 2 ?_
  rw [rounds_succ]
  go_wp2_with fail
  rw [rounds_succ]
  go_wp2_with fail
  go_ret2
  exact ⟨rfl, hb.out⟩

set_option maxHeartbeats 2000000 in
set_option maxRecDepth 100000 in
theorem p64_5 (w : World) : Calls Tryz.prog 205 #[.string ⟨#[53]⟩, .int .i64 16, .int .i64 64] w fun e w' => e = .returned (.tuple #[.int .u64 5, .nilIface]) ∧ Below w.heap.size w w' := by
  obtain ⟨M, hM⟩ : ∃ M : Int, M = 18446744073709551615 := ⟨_, rfl⟩
  have w1 : IntKind.u64.wrap (-1) = M := by rw [IntKind.wrap_u64, hM]; rfl
  have hM0 : ¬ M < 5 := by rw [hM]; decide
  have hM1 : 5 ≤ M := by rw [hM]; decide
  have hcv := convN_str w [53]
  have hB := Lib.bytesWorld_cell w 5 ⟨#[53]⟩ 0 (by decide)
  have hb := Lib.bytesWorld_below w 5 ⟨#[53]⟩
  replace hb := Lib.hid hb
  clear hM
  go_enter Tryz.func205, Tryz.ntmps205
  go_wp2_with fail
  refine wp_loop_rounds 2 ?_
  rw [rounds_succ]
  go_wp2_with fail
  rw [rounds_succ]
  go_wp2_with fail
  go_ret2
  exact ⟨rfl, hb.out⟩

set_option maxHeartbeats 2000000 in
set_option maxRecDepth 100000 in
theorem p64_6 (w : World) : Calls Tryz.prog 205 #[.string ⟨#[54]⟩, .int .i64 16, .int .i64 64] w fun e w' => e = .returned (.tuple #[.int .u64 6, .nilIface]) ∧ Below w.heap.size w w' := by
  obtain ⟨M, hM⟩ : ∃ M : Int, M = 18446744073709551615 := ⟨_, rfl⟩
  have w1 : IntKind.u64.wrap (-1) = M := by rw [IntKind.wrap_u64, hM]; rfl
  have hM0 : ¬ M < 6 := by rw [hM]; decide
  have hM1 : 6 ≤ M := by rw [hM]; decide
  have hcv := convN_str w [54]
  have hB := Lib.bytesWorld_cell w 5 ⟨#[54]⟩ 0 (by decide)
  have hb := Lib.bytesWorld_below w 5 ⟨#[54]⟩
  replace hb := Lib.hid hb
  clear hM
  go_enter Tryz.func205, Tryz.ntmps205
  go_wp2_with fail
  refine wp_loop_rounds 2 ?_
  rw [rounds_succ]
  go_wp2_with fail
  rw [rounds_succ]
  go_wp2_with fail
  go_ret2
  exact ⟨rfl, hb.out⟩

set_option maxHeartbeats 2000000 in
set_option maxRecDepth 100000 in
theorem p64_7 (w : World) : Calls Tryz.prog 205 #[.string ⟨#[55]⟩, .int .i64 16, .int .i64 64] w fun e w' => e = .returned (.tuple #[.int .u64 7, .nilIface]) ∧ Below w.heap.size w w' := by
  obtain ⟨M, hM⟩ : ∃ M : Int, M = 18446744073709551615 := ⟨_, rfl⟩
  have w1 : IntKind.u64.wrap (-1) = M := by rw [IntKind.wrap_u64, hM]; rfl
  have hM0 : ¬ M < 7 := by rw [hM]; decide
  have hM1 : 7 ≤ M := by rw [hM]; decide
  have hcv := convN_str w [55]
  have hB := Lib.bytesWorld_cell w 5 ⟨#[55]⟩ 0 (by decide)
  have hb := Lib.bytesWorld_below w 5 ⟨#[55]⟩
  replace hb := Lib.hid hb
  clear hM
  go_enter Tryz.func205, Tryz.ntmps205
  go_wp2_with fail
  refine wp_loop_rounds 2 ?_
  rw [rounds_succ]
  go_wp2_with fail
  rw [rounds_succ]
  go_wp2_with fail
  go_ret2
  exact ⟨rfl, hb.out⟩

set_option maxHeartbeats 2000000 in
set_option maxRecDepth 100000 in
theorem p64_8 (w : World) : Calls Tryz.prog 205 #[.string ⟨#[56]⟩, .int .i64 16, .int .i64 64] w fun e w' => e = .returned (.tuple #[.int .u64 8, .nilIface]) ∧ Below w.heap.size w w' := by
  obtain ⟨M, hM⟩ : ∃ M : Int, M = 18446744073709551615 := ⟨_, rfl⟩
  have w1 : IntKind.u64.wrap (-1) = M := by rw [IntKind.wrap_u64, hM]; rfl
  have hM0 : ¬ M < 8 := by rw [hM]; decide
  have hM1 : 8 ≤ M := by rw [hM]; decide
  have hcv := convN_str w [56]
  have hB := Lib.bytesWorld_cell w 5 ⟨#[56]⟩ 0 (by decide)
  have hb := Lib.bytesWorld_below w 5 ⟨#[56]⟩
  replace hb := Lib.hid hb
  clear hM
  go_enter Tryz.func205, Tryz.ntmps205
  go_wp2_with fail
  refine wp_loop_rounds 2 ?_
  rw [rounds_succ]
  go_wp2_with fail
  rw [rounds_succ]
  go_wp2_with fail
  go_ret2
  exact ⟨rfl, hb.out⟩

set_option maxHeartbeats 2000000 in
set_option maxRecDepth 100000 in
theorem p64_9 (w : World) : Calls Tryz.prog 205 #[.string ⟨#[57]⟩, .int .i64 16, .int .i64 64] w fun e w' => e = .returned (.tuple #[.int .u64 9, .nilIface]) ∧ Below w.heap.size w w' := by
  obtain ⟨M, hM⟩ : ∃ M : Int, M = 18446744073709551615 := ⟨_, rfl⟩
  have w1 : IntKind.u64.wrap (-1) = M := by rw [IntKind.wrap_u64, hM]; rfl
  have hM0 : ¬ M < 9 := by rw [hM]; decide
  have hM1 : 9 ≤ M := by rw [hM]; decide
  have hcv := convN_str w [57]
  have hB := Lib.bytesWorld_cell w 5 ⟨#[57]⟩ 0 (by decide)
  have hb := Lib.bytesWorld_below w 5 ⟨#[57]⟩
  replace hb := Lib.hid hb
  clear hM
  go_enter Tryz.func205, Tryz.ntmps205
  go_wp2_with fail
  refine wp_loop_rounds 2 ?_
  rw [rounds_succ]
  go_wp2_with fail
  rw [rounds_succ]
  go_wp2_with fail
  go_ret2
  exact ⟨rfl, hb.out⟩

set_option maxHeartbeats 2000000 in
set_option maxRecDepth 100000 in
theorem p64_10 (w : World) : Calls Tryz.prog 205 #[.string ⟨#[97]⟩, .int .i64 16, .int .i64 64] w fun e w' => e = .returned (.tuple #[.int .u64 10, .nilIface]) ∧ Below w.heap.size w w' := by
  obtain ⟨M, hM⟩ : ∃ M : Int, M = 18446744073709551615 := ⟨_, rfl⟩
  have w1 : IntKind.u64.wrap (-1) = M := by rw [IntKind.wrap_u64, hM]; rfl
  have hM0 : ¬ M < 10 := by rw [hM]; decide
  have hM1 : 10 ≤ M := by rw [hM]; decide
  have hcv := convN_str w [97]
  have hB := Lib.bytesWorld_cell w 5 ⟨#[97]⟩ 0 (by decide)
  have hb := Lib.bytesWorld_below w 5 ⟨#[97]⟩
  replace hb := Lib.hid hb
  clear hM
  go_enter Tryz.func205, Tryz.ntmps205
  go_wp2_with fail
  refine wp_loop_rounds 2 ?_
  rw [rounds_succ]
  go_wp2_with fail
  repeat (refine (lowerN_any 97 _).mono ?_; rintro e w' ⟨rfl, rfl⟩; go_wp2_with fail)
  rw [rounds_succ]
  go_wp2_with fail
  go_ret2
  exact ⟨rfl, hb.out⟩

set_option maxHeartbeats 2000000 in
set_option maxRecDepth 100000 in
theorem p64_11 (w : World) : Calls Tryz.prog 205 #[.string ⟨#[98]⟩, .int .i64 16, .int .i64 64] w fun e w' => e = .returned (.tuple #[.int .u64 11, .nilIface]) ∧ Below w.heap.size w w' := by
  obtain ⟨M, hM⟩ : ∃ M : Int, M = 18446744073709551615 := ⟨_, rfl⟩
  have w1 : IntKind.u64.wrap (-1) = M := by rw [IntKind.wrap_u64, hM]; rfl
  have hM0 : ¬ M < 11 := by rw [hM]; decide
  have hM1 : 11 ≤ M := by rw [hM]; decide
  have hcv := convN_str w [98]
  have hB := Lib.bytesWorld_cell w 5 ⟨#[98]⟩ 0 (by decide)
  have hb := Lib.bytesWorld_below w 5 ⟨#[98]⟩
  replace hb := Lib.hid hb
  clear hM
  go_enter Tryz.func205, Tryz.ntmps205
  go_wp2_with fail
  refine wp_loop_rounds 2 ?_
  rw [rounds_succ]
  go_wp2_with fail
  repeat (refine (lowerN_any 98 _).mono ?_; rintro e w' ⟨rfl, rfl⟩; go_wp2_with fail)
  rw [rounds_succ]
  go_wp2_with fail
  go_ret2
  exact ⟨rfl, hb.out⟩

set_option maxHeartbeats 2000000 in
set_option maxRecDepth 100000 in
theorem p64_12 (w : World) : Calls Tryz.prog 205 #[.string ⟨#[99]⟩, .int .i64 16, .int .i64 64] w fun e w' => e = .returned (.tuple #[.int .u64 12, .nilIface]) ∧ Below w.heap.size w w' := by
  obtain ⟨M, hM⟩ : ∃ M : Int, M = 18446744073709551615 := ⟨_, rfl⟩
  have w1 : IntKind.u64.wrap (-1) = M := by rw [IntKind.wrap_u64, hM]; rfl
  have hM0 : ¬ M < 12 := by rw [hM]; decide
  have hM1 : 12 ≤ M := by rw [hM]; decide
  have hcv := convN_str w [99]
  have hB := Lib.bytesWorld_cell w 5 ⟨#[99]⟩ 0 (by decide)
  have hb := Lib.bytesWorld_below w 5 ⟨#[99]⟩
  replace hb := Lib.hid hb
  clear hM
  go_enter Tryz.func205, Tryz.ntmps205
  go_wp2_with fail
  refine wp_loop_rounds 2 ?_
  rw [rounds_succ]
  go_wp2_with fail
  repeat (refine (lowerN_any 99 _).mono ?_; rintro e w' ⟨rfl, rfl⟩; go_wp2_with fail)
  rw [rounds_succ]
  go_wp2_with fail
  go_ret2
  exact ⟨rfl, hb.out⟩

set_option maxHeartbeats 2000000 in
set_option maxRecDepth 100000 in
theorem p64_13 (w : World) : Calls Tryz.prog 205 #[.string ⟨#[100]⟩, .int .i64 16, .int .i64 64] w fun e w' => e = .returned (.tuple #[.int .u64 13, .nilIface]) ∧ Below w.heap.size w w' := by
  obtain ⟨M, hM⟩ : ∃ M : Int, M = 18446744073709551615 := ⟨_, rfl⟩
  have w1 : IntKind.u64.wrap (-1) = M := by rw [IntKind.wrap_u64, hM]; rfl
  have hM0 : ¬ M < 13 := by rw [hM]; decide
  have hM1 : 13 ≤ M := by rw [hM]; decide
  have hcv := convN_str w [100]
  have hB := Lib.bytesWorld_cell w 5 ⟨#[100]⟩ 0 (by decide)
  have hb := Lib.bytesWorld_below w 5 ⟨#[100]⟩
  replace hb := Lib.hid hb
  clear hM
  go_enter Tryz.func205, Tryz.ntmps205
  go_wp2_with fail
  refine wp_loop_rounds 2 ?_
  rw [rounds_succ]
  go_wp2_with fail
  repeat (refine (lowerN_any 100 _).mono ?_; rintro e w' ⟨rfl, rfl⟩; go_wp2_with fail)
  rw [rounds_succ]
  go_wp2_with fail
  go_ret2
  exact ⟨rfl, hb.out⟩

set_option maxHeartbeats 2000000 in
set_option maxRecDepth 100000 in
theorem p64_14 (w : World) : Calls Tryz.prog 205 #[.string ⟨#[101]⟩, .int .i64 16, .int .i64 64] w fun e w' => e = .returned (.tuple #[.int .u64 14, .nilIface]) ∧ Below w.heap.size w w' := by
  obtain ⟨M, hM⟩ : ∃ M : Int, M = 18446744073709551615 := ⟨_, rfl⟩
  have w1 : IntKind.u64.wrap (-1) = M := by rw [IntKind.wrap_u64, hM]; rfl
  have hM0 : ¬ M < 14 := by rw [hM]; decide
  have hM1 : 14 ≤ M := by rw [hM]; decide
  have hcv := convN_str w [101]
  have hB := Lib.bytesWorld_cell w 5 ⟨#[101]⟩ 0 (by decide)
  have hb := Lib.bytesWorld_below w 5 ⟨#[101]⟩
  replace hb := Lib.hid hb
  clear hM
  go_enter Tryz.func205, Tryz.ntmps205
  go_wp2_with fail
  refine wp_loop_rounds 2 ?_
  rw [rounds_succ]
  go_wp2_with fail
  repeat (refine (lowerN_any 101 _).mono ?_; rintro e w' ⟨rfl, rfl⟩; go_wp2_with fail)
  rw [rounds_succ]
  go_wp2_with fail
  go_ret2
  exact ⟨rfl, hb.out⟩

set_option maxHeartbeats 2000000 in
set_option maxRecDepth 100000 in
theorem p64_15 (w : World) : Calls Tryz.prog 205 #[.string ⟨#[102]⟩, .int .i64 16, .int .i64 64] w fun e w' => e = .returned (.tuple #[.int .u64 15, .nilIface]) ∧ Below w.heap.size w w' := by
  obtain ⟨M, hM⟩ : ∃ M : Int, M = 18446744073709551615 := ⟨_, rfl⟩
  have w1 : IntKind.u64.wrap (-1) = M := by rw [IntKind.wrap_u64, hM]; rfl
  have hM0 : ¬ M < 15 := by rw [hM]; decide
  have hM1 : 15 ≤ M := by rw [hM]; decide
  have hcv := convN_str w [102]
  have hB := Lib.bytesWorld_cell w 5 ⟨#[102]⟩ 0 (by decide)
  have hb := Lib.bytesWorld_below w 5 ⟨#[102]⟩
  replace hb := Lib.hid hb
  clear hM
  go_enter Tryz.func205, Tryz.ntmps205
  go_wp2_with fail
  refine wp_loop_rounds 2 ?_
  rw [rounds_succ]
  go_wp2_with fail
  repeat (refine (lowerN_any 102 _).mono ?_; rintro e w' ⟨rfl, rfl⟩; go_wp2_with fail)
  rw [rounds_succ]
  go_wp2_with fail
  go_ret2
  exact ⟨rfl, hb.out⟩

/-- What the inner ParseUint hands back. -/
def PuP (M : Int) (e : Ending) : Prop := (∃ n : Int, 0 ≤ n ∧ n ≤ M ∧ e = .returned (.tuple #[.int .u64 n, .nilIface])) ∨ e = .returned (.tuple #[.int .u64 0, .iface 216 (.int .i64 2)]) ∨ e = .returned (.tuple #[.int .u64 M, .iface 216 (.int .i64 1)])
set_option maxRecDepth 100000 in
theorem lowN_none {c : UInt8} (h : hexD c = none) : ¬ (48 ≤ c.toNat ∧ c.toNat ≤ 57) ∧ (bits .or .u8 (c.toNat : Int) 32 < 97 ∨ 103 ≤ bits .or .u8 (c.toNat : Int) 32) := by
  have h1 : ∀ n, n < 256 → (match hexD (UInt8.ofNat n) with | some _ => true | none => decide (¬ (48 ≤ n ∧ n ≤ 57)) && decide (bits .or .u8 (n : Int) 32 < 97 ∨ 103 ≤ bits .or .u8 (n : Int) 32)) = true := by decide
  have h2 := h1 c.toNat c.toNat_lt
  rw [show UInt8.ofNat c.toNat = c from by simp, h] at h2
  simp only [Bool.and_eq_true, decide_eq_true_iff] at h2
  exact h2
set_option maxRecDepth 100000 in
theorem lowN_some {c : UInt8} {d : Nat} (h : hexD c = some d) : (48 ≤ c.toNat ∧ c.toNat ≤ 57 ∧ c.toNat = 48 + d) ∨ ((c.toNat < 48 ∨ 57 < c.toNat) ∧ c.toNat ≠ 95 ∧ 97 ≤ bits .or .u8 (c.toNat : Int) 32 ∧ bits .or .u8 (c.toNat : Int) 32 ≤ 122 ∧ bits .or .u8 (c.toNat : Int) 32 = 87 + (d : Int)) := by
  have h1 : ∀ n, n < 256 → (match hexD (UInt8.ofNat n) with | none => true | some d => decide ((48 ≤ n ∧ n ≤ 57 ∧ n = 48 + d) ∨ ((n < 48 ∨ 57 < n) ∧ n ≠ 95 ∧ 97 ≤ bits .or .u8 (n : Int) 32 ∧ bits .or .u8 (n : Int) 32 ≤ 122 ∧ bits .or .u8 (n : Int) 32 = 87 + (d : Int)))) = true := by decide
  have h2 := h1 c.toNat c.toNat_lt
  rw [show UInt8.ofNat c.toNat = c from by simp, h] at h2
  simpa only [decide_eq_true_iff] using h2

set_option maxHeartbeats 8000000 in
set_option maxRecDepth 100000 in
theorem parse16_64 (l : List UInt8) (w : World) (hne : l ≠ []) (hmax : l.length ≤ 100000) (M : Int) (hM : M = 18446744073709551615) :
    Calls Tryz.prog 205 #[.string ⟨l.toArray⟩, .int .i64 16, .int .i64 64] w fun e w' => PuP M e ∧ Below w.heap.size w w' := by
  have w1 : IntKind.u64.wrap (-1) = M := by rw [IntKind.wrap_u64, hM]; rfl
  have hwr := Lib.hid (fun n : Int => (show 0 ≤ IntKind.u64.wrap n ∧ IntKind.u64.wrap n ≤ M by rw [IntKind.wrap_u64, hM]; omega))
  have hM0 := Lib.hid (show 0 ≤ M by rw [hM]; decide)
  have hMM := Lib.hid (show IntKind.u64.wrap (IntKind.u64.wrap 18446744073709551616 - 1) = M by rw [IntKind.wrap_u64, IntKind.wrap_u64, hM]; rfl)
  clear hM
  obtain ⟨t, ht⟩ : ∃ t : ByteArray, t = ⟨l.toArray⟩ := ⟨_, rfl⟩
  have hcv := convN_str w l
  have htl : t.size = l.length := by rw [ht, Lib.size_eq]
  have hB : ∀ j, j < l.length → (Lib.bytesWorld w 5 t).cell? ⟨w.heap.size, j, none⟩ = some (.int .u8 (l.getD j 0).toNat) := fun j hj => by
    have := Lib.bytesWorld_cell w 5 t j (by rw [htl]; exact hj)
    rw [ht] at this ⊢
    exact this
  rw [← ht] at hcv ⊢
  have hemp : t.toList.isEmpty = false := by
    rw [← decide_eq_emptyBytes]
    refine decide_eq_false (fun h => hne ?_)
    have : l.length = 0 := by rw [← htl, h]; rfl
    exact List.length_eq_zero_iff.1 this
  have hb := Lib.hid (Lib.bytesWorld_below w 5 t)
  obtain ⟨W1, hW1⟩ : ∃ W1, W1 = Lib.bytesWorld w 5 t := ⟨_, rfl⟩
  rw [← hW1] at hcv hB hb
  clear hW1 ht
  go_enter Tryz.func205, Tryz.ntmps205
  go_wp2_with fail
  go_loop [12, 13, 101] (fun vu vn vi => ∃ (k : Nat) (a : Int), vu = .bool false ∧ vn = .int .u64 a ∧ vi = .int .i64 k ∧ k ≤ l.length ∧ Hid (0 ≤ a ∧ a ≤ M))
    (fun _ _ vi => l.length - (intOf vi).toNat)
  case atStart => exact ⟨0, 0, rfl, rfl, rfl, by omega, Lib.hid ⟨by decide, hM0.out⟩⟩
  case round =>
    obtain ⟨k, a, rfl, rfl, rfl, hk, hh⟩ := hrel
    by_cases hkn : k < l.length
    · have hc := hB k hkn
      have hget : l.getD k 0 = l[k]'hkn := by simp [List.getD, List.getElem?_eq_getElem hkn]
      rw [hget] at hc
      generalize l[k]'hkn = c at hc
      have hc256 : c.toNat < 256 := c.toNat_lt
      clear hB hget
      cases hd : hexD c with
      | none =>
        obtain ⟨hn, hv⟩ := lowN_none hd
        have hv0 := bits_lo_u8 .or (c.toNat : Int) 32
        have hv1 := bits_hi_u8 .or (c.toNat : Int) 32
        clear hd
        by_cases h95 : c.toNat = 95
        · rw [h95] at hc
          have hL : ∀ w, Hid (Calls Tryz.prog 240 #[.int .u8 95] w fun e w' => e = .returned (.int .u8 127) ∧ w = w') := fun w => Lib.hid (lowerN_any 95 w)
          clear hn hv hv0 hv1 h95
          go_wp2_with fail
          repeat (refine (hL _).out.mono ?_; rintro e w' ⟨rfl, rfl⟩; go_wp2_with fail)
          go_ret2
          exact ⟨.inr (.inl rfl), hb.out⟩
        · have hL := fun w => Lib.hid (lowerN_any (c.toNat : Int) w)
          generalize bits .or .u8 (c.toNat : Int) 32 = v at hv hv0 hv1 hL
          rcases hv with hv | hv
          all_goals
            by_cases hlo : c.toNat < 48
            all_goals
              try replace hlo : 57 < c.toNat := by omega
              try replace hlo : (c.toNat : Int) < 48 := by omega
              try replace hlo : 57 < (c.toNat : Int) := by omega
              have h95' : ¬ (c.toNat : Int) = 95 := by omega
              have b95 : ((c.toNat : Int) == 95) = false := by rw [beq_eq_false_iff_ne]; exact h95'
              clear hn h95
              by_cases hhi : v ≤ 122
              all_goals
                go_wp2_with fail
                repeat (refine (hL _).out.mono ?_; rintro e w' ⟨rfl, rfl⟩; go_wp2_with fail)
                all_goals go_ret2
                all_goals exact ⟨.inr (.inl rfl), hb.out⟩
      | some d =>
        have hd16 := hexD_lt hd
        have hL := fun w => Lib.hid (lowerN_any (c.toNat : Int) w)
        have hv1 := bits_hi_u8 .or (c.toNat : Int) 32
        have hs := lowN_some hd
        clear hd
        generalize bits .or .u8 (c.toNat : Int) 32 = v at hs hL hv1
        rcases hs with ⟨h1, h2, h3⟩ | ⟨h1, h2, h3, h4, h5⟩
        · have i1 : 48 ≤ (c.toNat : Int) := by omega
          have i2 : (c.toNat : Int) ≤ 57 := by omega
          clear hL hv1 h1 h2 h3
          go_wp2_with fail
          all_goals
            first
            | (go_ret2
               exact ⟨.inr (.inr (by rw [← hMM.out]; rfl)), hb.out⟩)
            | (go_round
               case rel => exact ⟨k + 1, _, by first | rfl | go_num, rfl, by first | rfl | go_num, by omega, Lib.hid (hwr.out _)⟩
               case measure => simp [intOf]; omega)
        · have i9 : v - 97 + 10 < 16 := by omega
          have h95' : ¬ (c.toNat : Int) = 95 := by omega
          have b95 : ((c.toNat : Int) == 95) = false := by rw [beq_eq_false_iff_ne]; exact h95'
          rcases h1 with h1 | h1
          all_goals
            try replace h1 : (c.toNat : Int) < 48 := by omega
            try replace h1 : 57 < (c.toNat : Int) := by omega
            clear h2 h5 hd16
            go_wp2_with fail
            repeat (refine (hL _).out.mono ?_; rintro e w' ⟨rfl, rfl⟩; go_wp2_with fail)
            all_goals
              first
              | (go_ret2
                 exact ⟨.inr (.inr (by rw [← hMM.out]; rfl)), hb.out⟩)
              | (go_round
                 case rel => exact ⟨k + 1, _, by first | rfl | go_num, rfl, by first | rfl | go_num, by omega, Lib.hid (hwr.out _)⟩
                 case measure => simp [intOf]; omega)
    · obtain rfl : k = l.length := by omega
      clear hB
      go_wp2_with fail
      go_ret2
      exact ⟨.inl ⟨a, hh.out.1, hh.out.2, rfl⟩, hb.out⟩
end Go.Proofs.YthjhokicojgpbaaGreatDoor
