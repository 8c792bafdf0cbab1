/- Counts: plus. -/
import Derived.Test.YthjhokicojgpbaaGreatDoorKcSwN
namespace Go.Proofs.YthjhokicojgpbaaGreatDoor
open Go.RowKit
set_option linter.unusedVariables false
set_option linter.unusedSimpArgs false

/-- The steps of a division by ten of two digits, as Div64 takes them. -/
structure Dv (h l U N M Q R V Q0 R0 q r : Int) : Prop where
  bO : bits .or .u64 (h * 1152921504606846976) (l / 16) = U
  bN : IntKind.u64.wrap (l * 1152921504606846976) = N
  bM : N / 4294967296 = M
  bZ : bits .and .u64 N 4294967295 = 0
  bQ : IntKind.u64.wrap (U.tdiv 2684354560) = Q
  c1 : IntKind.u64.wrap (Q * 2684354560) = Q * 2684354560
  c2 : IntKind.u64.wrap (U - Q * 2684354560) = R
  g1 : ¬ 4294967296 ≤ Q
  c3 : IntKind.u64.wrap (4294967296 * R) = 4294967296 * R
  c4 : IntKind.u64.wrap (4294967296 * R + M) = 4294967296 * R + M
  g2 : ¬ 4294967296 * R + M < 0
  c5 : IntKind.u64.wrap (IntKind.u64.wrap (IntKind.u64.wrap (U * 4294967296) + M) - IntKind.u64.wrap (Q * 11529215046068469760)) = V
  bV : IntKind.u64.wrap (V.tdiv 2684354560) = Q0
  c6 : IntKind.u64.wrap (Q0 * 2684354560) = Q0 * 2684354560
  c7 : IntKind.u64.wrap (V - Q0 * 2684354560) = R0
  g3 : ¬ 4294967296 ≤ Q0
  c8 : IntKind.u64.wrap (4294967296 * R0) = 4294967296 * R0
  g4 : ¬ 4294967296 * R0 < 0
  c9 : IntKind.u64.wrap (Q * 4294967296) = Q * 4294967296
  c10 : IntKind.u64.wrap (Q * 4294967296 + Q0) = q
  c11 : IntKind.u64.wrap (IntKind.u64.wrap (IntKind.u64.wrap (V * 4294967296)) - IntKind.u64.wrap (Q0 * 11529215046068469760)) = 4294967296 * R0
  c12 : 4294967296 * R0 / 1152921504606846976 = r
  eq : q = (h * 18446744073709551616 + l) / 10
  er : r = (h * 18446744073709551616 + l) % 10
theorem dv_is (h l : Int) (h0 : 0 ≤ h) (h1 : h < 10) (l0 : 0 ≤ l) (l1 : l < 18446744073709551616) : ∃ U N M Q R V Q0 R0 q r, Dv h l U N M Q R V Q0 R0 q r := by
  obtain ⟨U, hU⟩ : ∃ U : Int, U = h * 1152921504606846976 + l / 16 := ⟨_, rfl⟩
  obtain ⟨N, hN⟩ : ∃ N : Int, N = l % 16 * 1152921504606846976 := ⟨_, rfl⟩
  obtain ⟨M, hM⟩ : ∃ M : Int, M = l % 16 * 268435456 := ⟨_, rfl⟩
  obtain ⟨Q, hQ⟩ : ∃ Q : Int, Q = U / 2684354560 := ⟨_, rfl⟩
  obtain ⟨R, hR⟩ : ∃ R : Int, R = U % 2684354560 := ⟨_, rfl⟩
  obtain ⟨V, hV⟩ : ∃ V : Int, V = R * 4294967296 + M := ⟨_, rfl⟩
  obtain ⟨Q0, hQ0⟩ : ∃ Q : Int, Q = V / 2684354560 := ⟨_, rfl⟩
  obtain ⟨R0, hR0⟩ : ∃ R : Int, R = V % 2684354560 := ⟨_, rfl⟩
  have a1 : 0 ≤ R ∧ R < 2684354560 := by omega
  have a2 : 0 ≤ Q ∧ Q < 4294967296 := by omega
  have a3 : 0 ≤ M ∧ M < 4294967296 := by omega
  have a4 : 0 ≤ V ∧ V < 11529215046068469760 := by omega
  have a5 : 0 ≤ R0 ∧ R0 < 2684354560 := by omega
  have a6 : 0 ≤ Q0 ∧ Q0 < 4294967296 := by omega
  have a7 : 0 ≤ U ∧ U < 11529215046068469760 := by omega
  have a8 : Q * 2684354560 + R = U := by omega
  have a9 : Q0 * 2684354560 + R0 = V := by omega
  have b0 : N = M * 4294967296 := by omega
  have key : (h * 18446744073709551616 + l) * 268435456 = (Q * 4294967296 + Q0) * 2684354560 + R0 := by omega
  refine ⟨U, N, M, Q, R, V, Q0, R0, Q * 4294967296 + Q0, R0 / 268435456, ?_, ?_, ?_, ?_, ?_, ?_, ?_, by omega, ?_, ?_, by omega, ?_, ?_, ?_, ?_, by omega, ?_, by omega, ?_, ?_, ?_, by omega, by omega, by omega⟩
  · obtain ⟨H, rfl⟩ := Int.eq_ofNat_of_zero_le h0
    obtain ⟨L, rfl⟩ := Int.eq_ofNat_of_zero_le l0
    have hb : L / 16 < 2 ^ 60 := by omega
    have e := u64_or_nat (H * 1152921504606846976) (L / 16) (by omega) (by omega)
    have e2 := Nat.two_pow_add_eq_or_of_lt hb H
    rw [show (2 : Nat) ^ 60 * H = H * 1152921504606846976 by omega] at e2
    rw [← e2] at e
    rw [hU]
    refine Eq.trans ?_ (e.trans ?_)
    · congr 1
    · omega
  · rw [IntKind.wrap_u64, hN]; omega
  · omega
  · have hl : 0 ≤ l % 16 ∧ l % 16 < 16 := by omega
    rw [hN]
    generalize l % 16 = z at hl
    obtain ⟨Z, rfl⟩ := Int.eq_ofNat_of_zero_le hl.1
    have : ∀ Z : Nat, Z < 16 → bits .and .u64 ((Z : Int) * 1152921504606846976) 4294967295 = 0 := by decide
    exact this Z (by omega)
  all_goals first | (simp only [IntKind.wrap_u64]; omega) | (rw [Int.tdiv_eq_ediv_of_nonneg (by omega), IntKind.wrap_u64]; omega)

set_option maxRecDepth 100000 in
set_option maxHeartbeats 4000000 in
theorem div10_any (h l : Int) (w : World) (h0 : 0 ≤ h) (h1 : h < 10) (l0 : 0 ≤ l) (l1 : l < 18446744073709551616) :
    Calls Tryz.prog 139 #[.int .u64 h, .int .u64 l, .int .u64 10] w fun e w' => e = .returned (.tuple #[.int .u64 ((h * 18446744073709551616 + l) / 10), .int .u64 ((h * 18446744073709551616 + l) % 10)]) ∧ Below w.heap.size w w' := by
  by_cases hz : h = 0
  · subst hz
    obtain ⟨q, hq⟩ : ∃ q : Int, q = (0 * 18446744073709551616 + l) / 10 := ⟨_, rfl⟩
    obtain ⟨r, hr⟩ : ∃ q : Int, q = (0 * 18446744073709551616 + l) % 10 := ⟨_, rfl⟩
    rw [← hq, ← hr]
    have t1 : IntKind.u64.wrap (l.tdiv 10) = q := by rw [Int.tdiv_eq_ediv_of_nonneg l0, IntKind.wrap_u64, hq]; omega
    have t2 : l.tmod 10 = r := by rw [Int.tmod_eq_emod_of_nonneg l0, hr]; omega
    clear hq hr l0 l1 h0 h1
    go_enter Tryz.func139, Tryz.ntmps139
    go_upto_region 6 with fail
    refine wx_begin (none) [] (by kernel_rfl) (fun u0 hb0' hz0' => ?_)
    have hbw := hb0'
    clear hb0' hz0'
    refine wx_pure (i := 0) (d := some 28) (v := ?_) (by simp only [List.getElem?_toArray, List.getElem?_cons_succ, List.getElem?_cons_zero] <;> rfl) (by rfl) (by kernel_rfl) (by kernel_rfl) (by kernel_rfl) (fun _ _ _ h => h) (by rfl) ?_ ?_
    rotate_left
    · ((intro u); go_simp; try with_reducible rfl)
    try simp only [Act.put, List.setIfInBounds_toArray, List.set_cons_zero, List.set_cons_succ]
    refine wx_pure (i := 1) (d := some 29) (v := ?_) (by simp only [List.getElem?_toArray, List.getElem?_cons_succ, List.getElem?_cons_zero] <;> rfl) (by rfl) (by kernel_rfl) (by kernel_rfl) (by kernel_rfl) (fun _ _ _ h => h) (by rfl) ?_ ?_
    rotate_left
    · ((intro u); go_simp; try with_reducible rfl)
    try simp only [Act.put, List.setIfInBounds_toArray, List.set_cons_zero, List.set_cons_succ]
    refine wx_pure (i := 2) (d := some 30) (v := ?_) (by simp only [List.getElem?_toArray, List.getElem?_cons_succ, List.getElem?_cons_zero] <;> rfl) (by rfl) (by kernel_rfl) (by kernel_rfl) (by kernel_rfl) (fun _ _ _ h => h) (by rfl) ?_ ?_
    rotate_left
    · ((intro u); go_simp; try with_reducible rfl)
    try simp only [Act.put, List.setIfInBounds_toArray, List.set_cons_zero, List.set_cons_succ]
    refine wx_pure (i := 3) (d := some 31) (v := ?_) (by simp only [List.getElem?_toArray, List.getElem?_cons_succ, List.getElem?_cons_zero] <;> rfl) (by rfl) (by kernel_rfl) (by kernel_rfl) (by kernel_rfl) (fun _ _ _ h => h) (by rfl) ?_ ?_
    rotate_left
    · ((intro u); go_simp; try with_reducible rfl)
    try simp only [Act.put, List.setIfInBounds_toArray, List.set_cons_zero, List.set_cons_succ]
    refine wx_pure (i := 4) (d := some 32) (v := ?_) (by simp only [List.getElem?_toArray, List.getElem?_cons_succ, List.getElem?_cons_zero] <;> rfl) (by rfl) (by kernel_rfl) (by kernel_rfl) (by kernel_rfl) (fun _ _ _ h => h) (by rfl) ?_ ?_
    rotate_left
    · ((intro u); go_simp; try with_reducible rfl)
    try simp only [Act.put, List.setIfInBounds_toArray, List.set_cons_zero, List.set_cons_succ]
    refine wx_pure (i := 5) (d := some 33) (v := ?_) (by simp only [List.getElem?_toArray, List.getElem?_cons_succ, List.getElem?_cons_zero] <;> rfl) (by rfl) (by kernel_rfl) (by kernel_rfl) (by kernel_rfl) (fun _ _ _ h => h) (by rfl) ?_ ?_
    rotate_left
    · ((intro u); go_simp; try with_reducible rfl)
    try simp only [Act.put, List.setIfInBounds_toArray, List.set_cons_zero, List.set_cons_succ]
    refine wx_pure (i := 6) (d := some 6) (v := ?_) (by simp only [List.getElem?_toArray, List.getElem?_cons_succ, List.getElem?_cons_zero] <;> rfl) (by rfl) (by kernel_rfl) (by kernel_rfl) (by kernel_rfl) (fun _ _ _ h => h) (by rfl) ?_ ?_
    rotate_left
    · ((intro u); go_simp; try with_reducible rfl)
    try simp only [Act.put, List.setIfInBounds_toArray, List.set_cons_zero, List.set_cons_succ]
    refine wx_pure (i := 7) (d := some 7) (v := ?_) (by simp only [List.getElem?_toArray, List.getElem?_cons_succ, List.getElem?_cons_zero] <;> rfl) (by rfl) (by kernel_rfl) (by kernel_rfl) (by kernel_rfl) (fun _ _ _ h => h) (by rfl) ?_ ?_
    rotate_left
    · ((intro u); go_simp; try with_reducible rfl)
    try simp only [Act.put, List.setIfInBounds_toArray, List.set_cons_zero, List.set_cons_succ]
    refine wx_done (by kernel_rfl) ?_ _
    skip
    go_wp2_with fail
    go_ret2
    exact ⟨rfl, hbw⟩
  · have b0 : (h == 0) = false := by simp [hz]
    have b1 : ¬ (10 : Int) ≤ h := by omega
    have HL := fun w' => Lib.hid (Tryz.bits_LeadingZeros64 10 w' (by decide) (by decide))
    have e60 : (64 - (Lib.bitLen (10 : Int).toNat : Int)) = 60 := by decide
    rw [e60] at HL
    clear e60
    obtain ⟨U, N, M, Q, R, V, Q0, R0, q, r, H⟩ := dv_is h l h0 h1 l0 l1
    rw [← H.eq, ← H.er]
    obtain ⟨bO, bN, bM, bZ, bQ, c1, c2, g1, c3, c4, g2, c5, bV, c6, c7, g3, c8, g4, c9, c10, c11, c12, x1, x2⟩ := H
    clear x1 x2
    have bA : bits .and .u64 11529215046068469760 4294967295 = 0 := by decide
    have bW : IntKind.u64.wrap (h * 1152921504606846976) = h * 1152921504606846976 := by rw [IntKind.wrap_u64]; omega
    clear h0 h1 l0 l1 hz
    go_enter Tryz.func139, Tryz.ntmps139
    go_wp2_with fail
    refine (HL _).out.mono ?_
    rintro e w1 ⟨rfl, rfl⟩
    clear HL
    go_wp2_with fail
    refine wp_loop_rounds 2 ?_
    rw [rounds_succ]
    go_wp2_with fail
    refine wp_loop_rounds 2 ?_
    rw [rounds_succ]
    go_wp2_with fail
    go_ret2
    exact ⟨rfl, Below.refl _ _⟩
end Go.Proofs.YthjhokicojgpbaaGreatDoor
namespace Go.Proofs.YthjhokicojgpbaaGreatDoor
open Go.RowKit
set_option linter.unusedVariables false
set_option linter.unusedSimpArgs false

/-- A count: three digits of 64 bits. -/
def cntC (C : Nat) : List Value := [.int .u64 ((C % 2 ^ 64 : Nat) : Int), .int .u64 ((C / 2 ^ 64 % 2 ^ 64 : Nat) : Int), .int .u64 ((C / 2 ^ 128 : Nat) : Int)]
abbrev cntA (C : Nat) : Value := .agg (cntC C).toArray
theorem rowCnt : RowT 113 3 := ⟨⟨_, Tryz.underlying113, rfl⟩, by kernel_rfl⟩

set_option maxRecDepth 100000 in
set_option maxHeartbeats 4000000 in
theorem plus_core0 (d0 d1 d2 a r0 c1 r1 c2 r2 c3 p m : Int) (w : World)
    (hp : IntKind.i64.wrap (p.tdiv 64) = 0) (hm : p.tmod 64 = m) (hsh : Op.shift .shl .u64 1 .i64 m = pure (.int .u64 a))
    (A0 : ∀ w, (callFunc 138 #[.int .u64 d0, .int .u64 a, .int .u64 0]).run Tryz.prog w = .ok (.value (.tuple #[.int .u64 r0, .int .u64 c1])) w)
    (A1 : ∀ w, (callFunc 138 #[.int .u64 d1, .int .u64 0, .int .u64 c1]).run Tryz.prog w = .ok (.value (.tuple #[.int .u64 r1, .int .u64 c2])) w)
    (A2 : ∀ w, (callFunc 138 #[.int .u64 d2, .int .u64 0, .int .u64 c2]).run Tryz.prog w = .ok (.value (.tuple #[.int .u64 r2, .int .u64 c3])) w) :
    Calls Tryz.prog 93 #[.agg #[.int .u64 d0, .int .u64 d1, .int .u64 d2], .int .i64 p] w (GivesV (.agg #[.int .u64 r0, .int .u64 r1, .int .u64 r2]) w) := by
  go_enter Tryz.func93, Tryz.ntmps93
  go_wp2_with fail
  refine wp_loop_rounds 4 ?_
  rw [rounds_succ]
  go_wp2_with fail
  rw [rounds_succ]
  go_wp2_with fail
  rw [rounds_succ]
  go_wp2_with fail
  rw [rounds_succ]
  go_wp2_with fail
  obtain ⟨_, g2⟩ := two_new w [.int .u64 r0, .int .u64 r1, .int .u64 r2] [.int .u64 r0, .int .u64 r1, .int .u64 r2] 113 113
  refine bodyPost_ret (v := .agg #[.int .u64 r0, .int .u64 r1, .int .u64 r2]) ?_ rfl ⟨rfl, below_two w _ _⟩
  exact results_row rowCnt rfl _ _ _ _ _ rfl g2 rfl

set_option maxRecDepth 100000 in
set_option maxHeartbeats 4000000 in
theorem plus_core1 (d0 d1 d2 a r0 c1 r1 c2 r2 c3 p m : Int) (w : World)
    (hp : IntKind.i64.wrap (p.tdiv 64) = 1) (hm : p.tmod 64 = m) (hsh : Op.shift .shl .u64 1 .i64 m = pure (.int .u64 a))
    (A0 : ∀ w, (callFunc 138 #[.int .u64 d0, .int .u64 0, .int .u64 0]).run Tryz.prog w = .ok (.value (.tuple #[.int .u64 r0, .int .u64 c1])) w)
    (A1 : ∀ w, (callFunc 138 #[.int .u64 d1, .int .u64 a, .int .u64 c1]).run Tryz.prog w = .ok (.value (.tuple #[.int .u64 r1, .int .u64 c2])) w)
    (A2 : ∀ w, (callFunc 138 #[.int .u64 d2, .int .u64 0, .int .u64 c2]).run Tryz.prog w = .ok (.value (.tuple #[.int .u64 r2, .int .u64 c3])) w) :
    Calls Tryz.prog 93 #[.agg #[.int .u64 d0, .int .u64 d1, .int .u64 d2], .int .i64 p] w (GivesV (.agg #[.int .u64 r0, .int .u64 r1, .int .u64 r2]) w) := by
  go_enter Tryz.func93, Tryz.ntmps93
  go_wp2_with fail
  refine wp_loop_rounds 4 ?_
  rw [rounds_succ]
  go_wp2_with fail
  rw [rounds_succ]
  go_wp2_with fail
  rw [rounds_succ]
  go_wp2_with fail
  rw [rounds_succ]
  go_wp2_with fail
  obtain ⟨_, g2⟩ := two_new w [.int .u64 r0, .int .u64 r1, .int .u64 r2] [.int .u64 r0, .int .u64 r1, .int .u64 r2] 113 113
  refine bodyPost_ret (v := .agg #[.int .u64 r0, .int .u64 r1, .int .u64 r2]) ?_ rfl ⟨rfl, below_two w _ _⟩
  exact results_row rowCnt rfl _ _ _ _ _ rfl g2 rfl

set_option maxRecDepth 100000 in
set_option maxHeartbeats 4000000 in
theorem plus_core2 (d0 d1 d2 a r0 c1 r1 c2 r2 c3 p m : Int) (w : World)
    (hp : IntKind.i64.wrap (p.tdiv 64) = 2) (hm : p.tmod 64 = m) (hsh : Op.shift .shl .u64 1 .i64 m = pure (.int .u64 a))
    (A0 : ∀ w, (callFunc 138 #[.int .u64 d0, .int .u64 0, .int .u64 0]).run Tryz.prog w = .ok (.value (.tuple #[.int .u64 r0, .int .u64 c1])) w)
    (A1 : ∀ w, (callFunc 138 #[.int .u64 d1, .int .u64 0, .int .u64 c1]).run Tryz.prog w = .ok (.value (.tuple #[.int .u64 r1, .int .u64 c2])) w)
    (A2 : ∀ w, (callFunc 138 #[.int .u64 d2, .int .u64 a, .int .u64 c2]).run Tryz.prog w = .ok (.value (.tuple #[.int .u64 r2, .int .u64 c3])) w) :
    Calls Tryz.prog 93 #[.agg #[.int .u64 d0, .int .u64 d1, .int .u64 d2], .int .i64 p] w (GivesV (.agg #[.int .u64 r0, .int .u64 r1, .int .u64 r2]) w) := by
  go_enter Tryz.func93, Tryz.ntmps93
  go_wp2_with fail
  refine wp_loop_rounds 4 ?_
  rw [rounds_succ]
  go_wp2_with fail
  rw [rounds_succ]
  go_wp2_with fail
  rw [rounds_succ]
  go_wp2_with fail
  rw [rounds_succ]
  go_wp2_with fail
  obtain ⟨_, g2⟩ := two_new w [.int .u64 r0, .int .u64 r1, .int .u64 r2] [.int .u64 r0, .int .u64 r1, .int .u64 r2] 113 113
  refine bodyPost_ret (v := .agg #[.int .u64 r0, .int .u64 r1, .int .u64 r2]) ?_ rfl ⟨rfl, below_two w _ _⟩
  exact results_row rowCnt rfl _ _ _ _ _ rfl g2 rfl

theorem shl_one (m : Nat) (hm : m < 64) : Op.shift .shl .u64 1 .i64 (m : Int) = pure (.int .u64 ((2 ^ m : Nat) : Int)) := by
  have h1 : (2 : Nat) ^ m < 2 ^ 64 := Nat.pow_lt_pow_right (by decide) hm
  rw [shift_shl_u64 .i64 1 (m : Int) (by omega) (by omega), Int.toNat_natCast, Int.one_mul, IntKind.wrap_u64]
  have e : ((2 : Int) ^ m) = ((2 ^ m : Nat) : Int) := by push_cast; rfl
  rw [e]
  congr 2
  generalize (2 : Nat) ^ m = z at *
  omega
theorem plusC_any (C p : Nat) (w : World) (hp : p ≤ 128) (hC : C + 2 ^ p < 2 ^ 192) : Calls Tryz.prog 93 #[cntA C, .int .i64 p] w (GivesV (cntA (C + 2 ^ p)) w) := by
  obtain ⟨d0, e0⟩ : ∃ d : Int, d = ((C % 2 ^ 64 : Nat) : Int) := ⟨_, rfl⟩
  obtain ⟨d1, e1⟩ : ∃ d : Int, d = ((C / 2 ^ 64 % 2 ^ 64 : Nat) : Int) := ⟨_, rfl⟩
  obtain ⟨d2, e2⟩ : ∃ d : Int, d = ((C / 2 ^ 128 : Nat) : Int) := ⟨_, rfl⟩
  have hin : cntA C = .agg #[.int .u64 d0, .int .u64 d1, .int .u64 d2] := by rw [e0, e1, e2]; rfl
  rw [hin]
  have fin : ∀ (r0 r1 r2 : Int), r0 = (((C + 2 ^ p) % 2 ^ 64 : Nat) : Int) → r1 = (((C + 2 ^ p) / 2 ^ 64 % 2 ^ 64 : Nat) : Int) → r2 = (((C + 2 ^ p) / 2 ^ 128 : Nat) : Int) → cntA (C + 2 ^ p) = .agg #[.int .u64 r0, .int .u64 r1, .int .u64 r2] := by
    rintro r0 r1 r2 rfl rfl rfl; rfl
  have hC2 : C < 2 ^ 192 := Nat.lt_of_le_of_lt (Nat.le_add_right _ _) hC
  rcases Nat.lt_or_ge p 64 with h | h
  · have hA : 2 ^ p < 2 ^ 64 := Nat.pow_lt_pow_right (by decide) h
    have hsh := shl_one p h
    obtain ⟨A, eA⟩ : ∃ A, A = 2 ^ p := ⟨_, rfl⟩
    rw [← eA] at hsh fin hC hA ⊢
    rw [fin ((d0 + (A : Int) + 0) % 18446744073709551616) ((d1 + 0 + ((d0 + (A : Int) + 0) / 18446744073709551616)) % 18446744073709551616) ((d2 + 0 + ((d1 + 0 + ((d0 + (A : Int) + 0) / 18446744073709551616)) / 18446744073709551616)) % 18446744073709551616) (by omega) (by omega) (by omega)]
    exact plus_core0 d0 d1 d2 A _ _ _ _ _ _ p p w (by rw [Int.tdiv_eq_ediv_of_nonneg (by omega), IntKind.wrap_i64]; omega) (by rw [Int.tmod_eq_emod_of_nonneg (by omega)]; omega) hsh
      (fun w => add64_run d0 A 0 (by omega) (by omega) (by omega) (by omega) w) (fun w => add64_run d1 0 _ (by omega) (by omega) (by omega) (by omega) w) (fun w => add64_run d2 0 _ (by omega) (by omega) (by omega) (by omega) w)
  · rcases Nat.lt_or_ge p 128 with h2 | h2
    · have hA : 2 ^ (p - 64) < 2 ^ 64 := Nat.pow_lt_pow_right (by decide) (by omega)
      have hpp : 2 ^ p = 2 ^ (p - 64) * 2 ^ 64 := by rw [← Nat.pow_add]; congr 1; omega
      have hsh := shl_one (p - 64) (by omega)
      rw [hpp] at fin hC ⊢
      obtain ⟨A, eA⟩ : ∃ A, A = 2 ^ (p - 64) := ⟨_, rfl⟩
      rw [← eA] at hsh fin hC hA ⊢
      rw [fin ((d0 + 0 + 0) % 18446744073709551616) ((d1 + (A : Int) + ((d0 + 0 + 0) / 18446744073709551616)) % 18446744073709551616) ((d2 + 0 + ((d1 + (A : Int) + ((d0 + 0 + 0) / 18446744073709551616)) / 18446744073709551616)) % 18446744073709551616) (by omega) (by omega) (by omega)]
      exact plus_core1 d0 d1 d2 A _ _ _ _ _ _ p _ w (by rw [Int.tdiv_eq_ediv_of_nonneg (by omega), IntKind.wrap_i64]; omega) (by rw [Int.tmod_eq_emod_of_nonneg (by omega)]; omega) hsh
        (fun w => add64_run d0 0 0 (by omega) (by omega) (by omega) (by omega) w) (fun w => add64_run d1 A _ (by omega) (by omega) (by omega) (by omega) w) (fun w => add64_run d2 0 _ (by omega) (by omega) (by omega) (by omega) w)
    · have e : p = 128 := by omega
      subst e
      have hsh := shl_one 0 (by omega)
      rw [fin ((d0 + 0 + 0) % 18446744073709551616) ((d1 + 0 + ((d0 + 0 + 0) / 18446744073709551616)) % 18446744073709551616) ((d2 + 1 + ((d1 + 0 + ((d0 + 0 + 0) / 18446744073709551616)) / 18446744073709551616)) % 18446744073709551616) (by omega) (by omega) (by omega)]
      exact plus_core2 d0 d1 d2 1 _ _ _ _ _ _ 128 0 w (by decide) (by decide) hsh
        (fun w => add64_run d0 0 0 (by omega) (by omega) (by omega) (by omega) w) (fun w => add64_run d1 0 _ (by omega) (by omega) (by omega) (by omega) w) (fun w => add64_run d2 1 _ (by omega) (by omega) (by omega) (by omega) w)
end Go.Proofs.YthjhokicojgpbaaGreatDoor
