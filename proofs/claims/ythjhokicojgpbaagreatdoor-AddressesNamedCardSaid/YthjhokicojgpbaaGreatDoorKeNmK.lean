/- The name of an address, as the reference writes it. -/
import Derived.Test.YthjhokicojgpbaaGreatDoorKeNmJ
namespace Go.Proofs.YthjhokicojgpbaaGreatDoor
open Go.RowKit
set_option linter.unusedVariables false
set_option linter.unusedSimpArgs false

/-- Texts with a point behind each. -/
def dots (L : List (List UInt8)) : List UInt8 := (L.map (· ++ [46])).flatten
theorem dots_snoc (L : List (List UInt8)) (x : List UInt8) : dots (L ++ [x]) = dots L ++ (x ++ [46]) := by unfold dots; simp
theorem dots_tail : ∀ r : List (List UInt8), Lib.joinTail [46] r ++ [46] = [46] ++ dots r
  | [] => rfl
  | y :: r => by
    have ih := dots_tail r
    have e : Lib.joinTail [46] (y :: r) = ([46] ++ y) ++ Lib.joinTail [46] r := rfl
    have e2 : dots (y :: r) = (y ++ [46]) ++ dots r := rfl
    rw [e, e2, List.append_assoc, ih]
    simp
theorem join_dots (x : List UInt8) (r : List (List UInt8)) : Lib.join (x :: r) [46] ++ [46] = dots (x :: r) := by
  have e2 : dots (x :: r) = (x ++ [46]) ++ dots r := rfl
  rw [Lib.join_cons, List.append_assoc, dots_tail, e2]
  simp
theorem dots_le (m : Nat) : ∀ r : List (List UInt8), (∀ y ∈ r, y.length ≤ m) → (dots r).length ≤ (m + 1) * r.length
  | [], _ => by unfold dots; simp
  | y :: r, h => by
    have ih := dots_le m r (fun z hz => h z (List.mem_cons_of_mem _ hz))
    have hy := h y List.mem_cons_self
    have e : dots (y :: r) = (y ++ [46]) ++ dots r := rfl
    rw [e, List.length_append, List.length_append, List.length_cons, List.length_cons, Nat.mul_add, List.length_nil]
    omega
def restD (s : Bool) : List UInt8 := if s then [105, 112, 54, 46, 97, 114, 112, 97] else [105, 110, 45, 97, 100, 100, 114, 46, 97, 114, 112, 97]
theorem backL_dots (s : Bool) (hi lo : Nat) : backL s hi lo = dots ((adDigs s hi lo).map (labD s)) ++ restD s := by
  obtain ⟨d, r, h⟩ := adDigs_cons s hi lo
  unfold backL
  rw [h, List.map_cons, ← join_dots, List.append_assoc]
  congr 1
  cases s <;> rfl
theorem digs_mem_le {B n k : Nat} {s : Bool} (hB : B = baseD s) : ∀ y ∈ (digs B n k).map (labD s), y.length ≤ 3 := by
  intro y hy
  obtain ⟨d, hd, rfl⟩ := List.mem_map.1 hy
  subst hB
  exact labD_len (digs_lt (by cases s <;> decide) hd)
theorem hq0 (w : World) : (Instr.index 9 (.string { data := #[48, 49, 50, 51, 52, 53, 54, 55, 56, 57, 97, 98, 99, 100, 101, 102] }) (.int .u64 0)).run Tryz.prog w = .ok (.int .u8 ((hexc 0).toNat : Int)) w ∧ (convert 5 9 (.int .u8 ((hexc 0).toNat : Int))).run Tryz.prog w = .ok (.string ⟨[hexc 0].toArray⟩) w := ⟨by kernel_rfl, by kernel_rfl⟩
theorem hq1 (w : World) : (Instr.index 9 (.string { data := #[48, 49, 50, 51, 52, 53, 54, 55, 56, 57, 97, 98, 99, 100, 101, 102] }) (.int .u64 1)).run Tryz.prog w = .ok (.int .u8 ((hexc 1).toNat : Int)) w ∧ (convert 5 9 (.int .u8 ((hexc 1).toNat : Int))).run Tryz.prog w = .ok (.string ⟨[hexc 1].toArray⟩) w := ⟨by kernel_rfl, by kernel_rfl⟩
theorem hq2 (w : World) : (Instr.index 9 (.string { data := #[48, 49, 50, 51, 52, 53, 54, 55, 56, 57, 97, 98, 99, 100, 101, 102] }) (.int .u64 2)).run Tryz.prog w = .ok (.int .u8 ((hexc 2).toNat : Int)) w ∧ (convert 5 9 (.int .u8 ((hexc 2).toNat : Int))).run Tryz.prog w = .ok (.string ⟨[hexc 2].toArray⟩) w := ⟨by kernel_rfl, by kernel_rfl⟩
theorem hq3 (w : World) : (Instr.index 9 (.string { data := #[48, 49, 50, 51, 52, 53, 54, 55, 56, 57, 97, 98, 99, 100, 101, 102] }) (.int .u64 3)).run Tryz.prog w = .ok (.int .u8 ((hexc 3).toNat : Int)) w ∧ (convert 5 9 (.int .u8 ((hexc 3).toNat : Int))).run Tryz.prog w = .ok (.string ⟨[hexc 3].toArray⟩) w := ⟨by kernel_rfl, by kernel_rfl⟩
theorem hq4 (w : World) : (Instr.index 9 (.string { data := #[48, 49, 50, 51, 52, 53, 54, 55, 56, 57, 97, 98, 99, 100, 101, 102] }) (.int .u64 4)).run Tryz.prog w = .ok (.int .u8 ((hexc 4).toNat : Int)) w ∧ (convert 5 9 (.int .u8 ((hexc 4).toNat : Int))).run Tryz.prog w = .ok (.string ⟨[hexc 4].toArray⟩) w := ⟨by kernel_rfl, by kernel_rfl⟩
theorem hq5 (w : World) : (Instr.index 9 (.string { data := #[48, 49, 50, 51, 52, 53, 54, 55, 56, 57, 97, 98, 99, 100, 101, 102] }) (.int .u64 5)).run Tryz.prog w = .ok (.int .u8 ((hexc 5).toNat : Int)) w ∧ (convert 5 9 (.int .u8 ((hexc 5).toNat : Int))).run Tryz.prog w = .ok (.string ⟨[hexc 5].toArray⟩) w := ⟨by kernel_rfl, by kernel_rfl⟩
theorem hq6 (w : World) : (Instr.index 9 (.string { data := #[48, 49, 50, 51, 52, 53, 54, 55, 56, 57, 97, 98, 99, 100, 101, 102] }) (.int .u64 6)).run Tryz.prog w = .ok (.int .u8 ((hexc 6).toNat : Int)) w ∧ (convert 5 9 (.int .u8 ((hexc 6).toNat : Int))).run Tryz.prog w = .ok (.string ⟨[hexc 6].toArray⟩) w := ⟨by kernel_rfl, by kernel_rfl⟩
theorem hq7 (w : World) : (Instr.index 9 (.string { data := #[48, 49, 50, 51, 52, 53, 54, 55, 56, 57, 97, 98, 99, 100, 101, 102] }) (.int .u64 7)).run Tryz.prog w = .ok (.int .u8 ((hexc 7).toNat : Int)) w ∧ (convert 5 9 (.int .u8 ((hexc 7).toNat : Int))).run Tryz.prog w = .ok (.string ⟨[hexc 7].toArray⟩) w := ⟨by kernel_rfl, by kernel_rfl⟩
theorem hq8 (w : World) : (Instr.index 9 (.string { data := #[48, 49, 50, 51, 52, 53, 54, 55, 56, 57, 97, 98, 99, 100, 101, 102] }) (.int .u64 8)).run Tryz.prog w = .ok (.int .u8 ((hexc 8).toNat : Int)) w ∧ (convert 5 9 (.int .u8 ((hexc 8).toNat : Int))).run Tryz.prog w = .ok (.string ⟨[hexc 8].toArray⟩) w := ⟨by kernel_rfl, by kernel_rfl⟩
theorem hq9 (w : World) : (Instr.index 9 (.string { data := #[48, 49, 50, 51, 52, 53, 54, 55, 56, 57, 97, 98, 99, 100, 101, 102] }) (.int .u64 9)).run Tryz.prog w = .ok (.int .u8 ((hexc 9).toNat : Int)) w ∧ (convert 5 9 (.int .u8 ((hexc 9).toNat : Int))).run Tryz.prog w = .ok (.string ⟨[hexc 9].toArray⟩) w := ⟨by kernel_rfl, by kernel_rfl⟩
theorem hq10 (w : World) : (Instr.index 9 (.string { data := #[48, 49, 50, 51, 52, 53, 54, 55, 56, 57, 97, 98, 99, 100, 101, 102] }) (.int .u64 10)).run Tryz.prog w = .ok (.int .u8 ((hexc 10).toNat : Int)) w ∧ (convert 5 9 (.int .u8 ((hexc 10).toNat : Int))).run Tryz.prog w = .ok (.string ⟨[hexc 10].toArray⟩) w := ⟨by kernel_rfl, by kernel_rfl⟩
theorem hq11 (w : World) : (Instr.index 9 (.string { data := #[48, 49, 50, 51, 52, 53, 54, 55, 56, 57, 97, 98, 99, 100, 101, 102] }) (.int .u64 11)).run Tryz.prog w = .ok (.int .u8 ((hexc 11).toNat : Int)) w ∧ (convert 5 9 (.int .u8 ((hexc 11).toNat : Int))).run Tryz.prog w = .ok (.string ⟨[hexc 11].toArray⟩) w := ⟨by kernel_rfl, by kernel_rfl⟩
theorem hq12 (w : World) : (Instr.index 9 (.string { data := #[48, 49, 50, 51, 52, 53, 54, 55, 56, 57, 97, 98, 99, 100, 101, 102] }) (.int .u64 12)).run Tryz.prog w = .ok (.int .u8 ((hexc 12).toNat : Int)) w ∧ (convert 5 9 (.int .u8 ((hexc 12).toNat : Int))).run Tryz.prog w = .ok (.string ⟨[hexc 12].toArray⟩) w := ⟨by kernel_rfl, by kernel_rfl⟩
theorem hq13 (w : World) : (Instr.index 9 (.string { data := #[48, 49, 50, 51, 52, 53, 54, 55, 56, 57, 97, 98, 99, 100, 101, 102] }) (.int .u64 13)).run Tryz.prog w = .ok (.int .u8 ((hexc 13).toNat : Int)) w ∧ (convert 5 9 (.int .u8 ((hexc 13).toNat : Int))).run Tryz.prog w = .ok (.string ⟨[hexc 13].toArray⟩) w := ⟨by kernel_rfl, by kernel_rfl⟩
theorem hq14 (w : World) : (Instr.index 9 (.string { data := #[48, 49, 50, 51, 52, 53, 54, 55, 56, 57, 97, 98, 99, 100, 101, 102] }) (.int .u64 14)).run Tryz.prog w = .ok (.int .u8 ((hexc 14).toNat : Int)) w ∧ (convert 5 9 (.int .u8 ((hexc 14).toNat : Int))).run Tryz.prog w = .ok (.string ⟨[hexc 14].toArray⟩) w := ⟨by kernel_rfl, by kernel_rfl⟩
theorem hq15 (w : World) : (Instr.index 9 (.string { data := #[48, 49, 50, 51, 52, 53, 54, 55, 56, 57, 97, 98, 99, 100, 101, 102] }) (.int .u64 15)).run Tryz.prog w = .ok (.int .u8 ((hexc 15).toNat : Int)) w ∧ (convert 5 9 (.int .u8 ((hexc 15).toNat : Int))).run Tryz.prog w = .ok (.string ⟨[hexc 15].toArray⟩) w := ⟨by kernel_rfl, by kernel_rfl⟩

theorem dig16 (d : Nat) (h1 : d < 16) (w : World) :
    (Instr.index 9 (.string { data := #[48, 49, 50, 51, 52, 53, 54, 55, 56, 57, 97, 98, 99, 100, 101, 102] }) (.int .u64 (d : Int))).run Tryz.prog w = .ok (.int .u8 ((hexc d).toNat : Int)) w ∧ (convert 5 9 (.int .u8 ((hexc d).toNat : Int))).run Tryz.prog w = .ok (.string ⟨[hexc d].toArray⟩) w := by
  have h : d = 0 ∨ d = 1 ∨ d = 2 ∨ d = 3 ∨ d = 4 ∨ d = 5 ∨ d = 6 ∨ d = 7 ∨ d = 8 ∨ d = 9 ∨ d = 10 ∨ d = 11 ∨ d = 12 ∨ d = 13 ∨ d = 14 ∨ d = 15 := by omega
  rcases h with rfl | rfl | rfl | rfl | rfl | rfl | rfl | rfl | rfl | rfl | rfl | rfl | rfl | rfl | rfl | rfl
  · exact hq0 w
  · exact hq1 w
  · exact hq2 w
  · exact hq3 w
  · exact hq4 w
  · exact hq5 w
  · exact hq6 w
  · exact hq7 w
  · exact hq8 w
  · exact hq9 w
  · exact hq10 w
  · exact hq11 w
  · exact hq12 w
  · exact hq13 w
  · exact hq14 w
  · exact hq15 w

set_option maxRecDepth 100000 in
set_option maxHeartbeats 2000000 in
theorem backName4_any (hi : Int) (lo : Nat) (w : World) (hT : Tabs w) (hl : lo < 2 ^ 32) :
    Calls Tryz.prog 10 #[adV false hi (lo : Int)] w (GivesV (.string ⟨(backL false 0 lo).toArray⟩) w) := by
  have hC := Blk.new w [.bool false, .int .u64 hi, .int .u64 (lo : Int)] 28
  have hbw : Below w.heap.size w (w.alloc (.cells [Value.bool false, .int .u64 hi, .int .u64 (lo : Int)].toArray 28)) := (Below.refl _ _).alloc (Nat.le_refl _) _
  have hTW : Hid (∀ W, Below w.heap.size w W → Tabs W) := Lib.hid fun W hW => hT.below hW
  have hfin := Lib.hid (show backL false 0 lo = dots ((digs 256 lo 4).map (labD false)) ++ restD false from backL_dots false 0 lo)
  replace hl := Lib.hid hl
  clear hT
  have c0 := hC.cell (i := 0) (v := .bool false) rfl
  go_enter Tryz.func10, Tryz.ntmps10
  go_wp2_with fail
  clear c0
  generalize World.alloc w _ = w0 at *
  go_loopw [3, 11] (fun vo vi wr => ∃ k : Nat, k ≤ 4 ∧ vi = .int .i64 k ∧ vo = .string ⟨(dots ((digs 256 lo k).map (labD false))).toArray⟩ ∧ Blk wr w.heap.size [.bool false, .int .u64 hi, .int .u64 (lo : Int)] 28 ∧ Below w.heap.size w wr) (fun _ vi _ => 4 - (intOf vi).toNat)
  case atStart => exact ⟨0, by omega, rfl, rfl, hC, hbw⟩
  case round =>
    clear hC hbw
    obtain ⟨k, hk, rfl, rfl, hC, hbw⟩ := hrel
    by_cases hlt : k < 4
    · have hlt' : (k : Int) < 4 := by omega
      obtain ⟨N, hN⟩ : ∃ N, N = lo / 256 ^ k := ⟨_, rfl⟩
      have hN64 : N < 2 ^ 64 := by rw [hN]; exact Nat.lt_of_le_of_lt (Nat.div_le_self _ _) (by have := hl.out; omega)
      obtain ⟨d, hd⟩ : ∃ d, d = N % 256 := ⟨_, rfl⟩
      have hd1 : d < 256 := by rw [hd]; exact Nat.mod_lt _ (by decide)
      have hsucc := Lib.hid (show dots ((digs 256 lo (k + 1)).map (labD false)) = dots ((digs 256 lo k).map (labD false)) ++ (labD false d ++ [46]) by rw [digs_succ, List.map_append, hd, hN]; exact dots_snoc _ _)
      have hO1 : (dots ((digs 256 lo k).map (labD false))).length ≤ 16 := by
        have := dots_le 3 _ (digs_mem_le (B := 256) (n := lo) (k := k) (s := false) rfl)
        rw [List.length_map, digs_len] at this; omega
      have hx1 : (labD false d).length ≤ 3 := labD_len hd1
      have ha := and_lo N 8 255 (by decide) (by decide) hN64
      rw [show N % 2 ^ 8 = d from hd.symm] at ha
      have HI := fun W (hW : Below w.heap.size w W) => (show Hid (Calls Tryz.prog 54 #[.int .i64 (d : Int)] W (GivesV (.string ⟨(labD false d).toArray⟩) W)) from by
        have := itoa_gives d (by omega) W (hTW.out W hW)
        rw [dec3_eq (by omega)] at this
        exact Lib.hid this)
      obtain ⟨O, hO⟩ : ∃ O, O = dots ((digs 256 lo k).map (labD false)) := ⟨_, rfl⟩
      obtain ⟨x, hx⟩ : ∃ x, x = labD false d := ⟨_, rfl⟩
      rw [← hO] at hsucc hO1 ⊢
      rw [← hx] at hsucc hx1 HI
      have hsh : (lo : Int) / 2 ^ (8 * k) = (N : Int) := by
        rw [hN]
        have : (2 : Int) ^ (8 * k) = ((256 ^ k : Nat) : Int) := by rw [Int.natCast_pow, Int.pow_mul]; rfl
        rw [this]; exact (Int.natCast_ediv _ _).symm
      have hw6 : wrap64 (d : Int) = d := IntWalk.wrap64_in _ (by omega)
      have HI1 := HI _ hbw
      have c2 := hC.cell (i := 2) (v := .int .u64 (lo : Int)) rfl
      have k0 : 0 ≤ 8 * (k : Int) := by omega
      have hcat1 : ¬ 9223372036854775807 < x.length + 1 := by omega
      have hcat2 : ¬ 9223372036854775807 < O.length + (x.length + 1) := by omega
      replace hx := Lib.hid hx
      replace hO := Lib.hid hO
      replace hd := Lib.hid hd
      replace hN := Lib.hid hN
      replace hC := Lib.hid hC
      replace hbw := Lib.hid hbw
      clear hN64 HI
      go_wp2_with fail
      refine HI1.out.mono ?_
      rintro e w1 ⟨rfl, hv⟩
      replace hC := hC.out.below hv
      replace hbw := hbw.out.trans (hv.mono hbw.out.size)
      clear hv HI1 c2 hsh hw6 ha
      go_wp2_with fail
      go_roundw
      case rel => exact ⟨k + 1, by omega, by go_num, by rw [hsucc.out, ← baN_append, ← baN_append], hC, hbw⟩
      case measure => simp [intOf]; omega
    · have hk4 : k = 4 := by omega
      subst hk4
      have hO1 : (dots ((digs 256 lo 4).map (labD false))).length ≤ 16 := by
        have := dots_le 3 _ (digs_mem_le (B := 256) (n := lo) (k := 4) (s := false) rfl)
        rw [List.length_map, digs_len] at this; omega
      generalize dots ((digs 256 lo 4).map (labD false)) = O at *
      have hcat : ¬ 9223372036854775807 < O.length + 12 := by omega
      go_wp2_with fail
      go_ret
      exact ⟨by rw [hfin.out, ← baN_append]; rfl, hbw⟩

set_option maxRecDepth 100000 in
set_option maxHeartbeats 2000000 in
theorem backName6_any (hi lo : Nat) (w : World) (hh : hi < 2 ^ 64) (hl : lo < 2 ^ 64) :
    Calls Tryz.prog 10 #[adV true (hi : Int) (lo : Int)] w (GivesV (.string ⟨(backL true hi lo).toArray⟩) w) := by
  have hC := Blk.new w [.bool true, .int .u64 (hi : Int), .int .u64 (lo : Int)] 28
  have hbw : Below w.heap.size w (w.alloc (.cells [Value.bool true, .int .u64 (hi : Int), .int .u64 (lo : Int)].toArray 28)) := (Below.refl _ _).alloc (Nat.le_refl _) _
  have hfin := Lib.hid (show backL true hi lo = dots ((digs 16 lo 16).map (labD true) ++ (digs 16 hi 16).map (labD true)) ++ restD true by
    rw [backL_dots]
    show dots ((digs 16 lo 16 ++ digs 16 hi 16).map (labD true)) ++ _ = _
    rw [List.map_append])
  have hP0 := Lib.hid (show (([] : List (List UInt8)).length ≤ 16 ∧ ∀ y ∈ ([] : List (List UInt8)), y.length ≤ 3) from ⟨by decide, fun y hy => by cases hy⟩)
  have hP1 := Lib.hid (show (((digs 16 lo 16).map (labD true)).length ≤ 16 ∧ ∀ y ∈ (digs 16 lo 16).map (labD true), y.length ≤ 3) from ⟨by rw [List.length_map, digs_len]; omega, digs_mem_le rfl⟩)
  obtain ⟨PL, hPL⟩ : ∃ P, P = (digs 16 lo 16).map (labD true) := ⟨_, rfl⟩
  rw [← hPL] at hP1 hfin
  replace hPL := Lib.hid hPL
  replace hl := Lib.hid hl
  replace hh := Lib.hid hh
  have c0 := hC.cell (i := 0) (v := .bool true) rfl
  have c1 := hC.cell (i := 1) (v := .int .u64 (hi : Int)) rfl
  have c2 := hC.cell (i := 2) (v := .int .u64 (lo : Int)) rfl
  have hQ := Blk.new (w.alloc (.cells [Value.bool true, .int .u64 (hi : Int), .int .u64 (lo : Int)].toArray 28)) [.int .u64 (lo : Int), .int .u64 (hi : Int)] 26
  have hal := (hbw.alloc hbw.size (.cells [Value.int .u64 (lo : Int), .int .u64 (hi : Int)].toArray 26))
  go_enter Tryz.func10, Tryz.ntmps10
  go_wp2_with fail
  clear c0 c1 c2 hC hbw
  have hbw := hal
  rw [World.size_alloc] at hQ
  generalize World.alloc (World.alloc w _) _ = w0 at *
  clear hal
  refine wp_loop_rounds 3 ?_
  rw [rounds_succ]
  have q0 := hQ.cell (i := 0) (v := .int .u64 (lo : Int)) rfl

  go_wp2_with fail
  go_loopw [3, 38] (fun vo vi wr => ∃ k : Nat, k ≤ 16 ∧ vi = .int .i64 k ∧ vo = .string ⟨(dots (([] : List (List UInt8)) ++ (digs 16 lo k).map (labD true))).toArray⟩ ∧ Blk wr (w.heap.size + 1) [.int .u64 (lo : Int), .int .u64 (hi : Int)] 26 ∧ Below w.heap.size w wr) (fun _ vi _ => 16 - (intOf vi).toNat)
  case atStart => exact ⟨0, by omega, rfl, by first | rfl | (rw [show (digs 16 lo 0).map (labD true) = [] from rfl, List.append_nil]), hQ, hbw⟩
  case round =>
    clear hQ hbw
    obtain ⟨k, hk, rfl, rfl, hQ, hbw⟩ := hrel
    by_cases hlt : k < 16
    · have hlt' : (k : Int) < 16 := by omega
      obtain ⟨N, hN⟩ : ∃ N, N = lo / 16 ^ k := ⟨_, rfl⟩
      have hN64 : N < 2 ^ 64 := by rw [hN]; exact Nat.lt_of_le_of_lt (Nat.div_le_self _ _) hl.out
      obtain ⟨d, hd⟩ : ∃ d, d = N % 16 := ⟨_, rfl⟩
      have hd1 : d < 16 := by rw [hd]; exact Nat.mod_lt _ (by decide)
      have hsucc := Lib.hid (show dots (([] : List (List UInt8)) ++ (digs 16 lo (k + 1)).map (labD true)) = dots (([] : List (List UInt8)) ++ (digs 16 lo k).map (labD true)) ++ ([hexc d] ++ [46]) by rw [digs_succ, List.map_append, hd, hN, ← List.append_assoc]; exact dots_snoc _ _)
      have hO1 : (dots (([] : List (List UInt8)) ++ (digs 16 lo k).map (labD true))).length ≤ 200 := by
        have := dots_le 3 (([] : List (List UInt8)) ++ (digs 16 lo k).map (labD true)) (fun y hy => by
          rcases List.mem_append.1 hy with h | h
          · exact hP0.out.2 y h
          · exact digs_mem_le (s := true) rfl y h)
        rw [List.length_append, List.length_map, digs_len] at this
        have := hP0.out.1
        omega
      have ha := and_lo N 4 15 (by decide) (by decide) hN64
      rw [show N % 2 ^ 4 = d from hd.symm] at ha
      have hix := fun W => (dig16 d hd1 W).1
      have hcv := fun W => (dig16 d hd1 W).2
      obtain ⟨O, hO⟩ : ∃ O, O = dots (([] : List (List UInt8)) ++ (digs 16 lo k).map (labD true)) := ⟨_, rfl⟩
      obtain ⟨x, hx⟩ : ∃ x, x = [hexc d] := ⟨_, rfl⟩
      have hx1 : x.length = 1 := by rw [hx]; rfl
      rw [← hO] at hsucc hO1 ⊢
      rw [← hx] at hsucc hcv
      have hsh : (lo : Int) / 2 ^ (4 * k) = (N : Int) := by
        rw [hN]
        have : (2 : Int) ^ (4 * k) = ((16 ^ k : Nat) : Int) := by rw [Int.natCast_pow, Int.pow_mul]; rfl
        rw [this]; exact (Int.natCast_ediv _ _).symm
      have k0 : 0 ≤ 4 * (k : Int) := by omega
      have hcat1 : ¬ 9223372036854775807 < x.length + 1 := by omega
      have hcat2 : ¬ 9223372036854775807 < O.length + (x.length + 1) := by omega
      replace hx := Lib.hid hx
      replace hx1 := Lib.hid hx1
      replace hO := Lib.hid hO
      replace hd := Lib.hid hd
      replace hN := Lib.hid hN
      replace hQ := Lib.hid hQ
      replace hbw := Lib.hid hbw
      clear hN64
      go_wp2_with fail
      go_roundw
      case rel => exact ⟨k + 1, by omega, by go_num, by rw [hsucc.out, ← baN_append, ← baN_append], hQ.out, hbw.out⟩
      case measure => simp [intOf]; omega
    · have hk16 : k = 16 := by omega
      subst hk16
      clear hlt hk
      go_wp2_with fail
      rw [rounds_succ]
      have q1 := hQ.cell (i := 1) (v := .int .u64 (hi : Int)) rfl
      rw [List.nil_append, ← hPL.out]

      go_wp2_with fail
      go_loopw [3, 38] (fun vo vi wr => ∃ k : Nat, k ≤ 16 ∧ vi = .int .i64 k ∧ vo = .string ⟨(dots (PL ++ (digs 16 hi k).map (labD true))).toArray⟩ ∧ Blk wr (w.heap.size + 1) [.int .u64 (lo : Int), .int .u64 (hi : Int)] 26 ∧ Below w.heap.size w wr) (fun _ vi _ => 16 - (intOf vi).toNat)
      case atStart => exact ⟨0, by omega, rfl, by first | rfl | (rw [show (digs 16 hi 0).map (labD true) = [] from rfl, List.append_nil]), hQ, hbw⟩
      case round =>
        clear hQ hbw
        obtain ⟨k, hk, rfl, rfl, hQ, hbw⟩ := hrel
        by_cases hlt : k < 16
        · have hlt' : (k : Int) < 16 := by omega
          obtain ⟨N, hN⟩ : ∃ N, N = hi / 16 ^ k := ⟨_, rfl⟩
          have hN64 : N < 2 ^ 64 := by rw [hN]; exact Nat.lt_of_le_of_lt (Nat.div_le_self _ _) hh.out
          obtain ⟨d, hd⟩ : ∃ d, d = N % 16 := ⟨_, rfl⟩
          have hd1 : d < 16 := by rw [hd]; exact Nat.mod_lt _ (by decide)
          have hsucc := Lib.hid (show dots (PL ++ (digs 16 hi (k + 1)).map (labD true)) = dots (PL ++ (digs 16 hi k).map (labD true)) ++ ([hexc d] ++ [46]) by rw [digs_succ, List.map_append, hd, hN, ← List.append_assoc]; exact dots_snoc _ _)
          have hO1 : (dots (PL ++ (digs 16 hi k).map (labD true))).length ≤ 200 := by
            have := dots_le 3 (PL ++ (digs 16 hi k).map (labD true)) (fun y hy => by
              rcases List.mem_append.1 hy with h | h
              · exact hP1.out.2 y h
              · exact digs_mem_le (s := true) rfl y h)
            rw [List.length_append, List.length_map, digs_len] at this
            have := hP1.out.1
            omega
          have ha := and_lo N 4 15 (by decide) (by decide) hN64
          rw [show N % 2 ^ 4 = d from hd.symm] at ha
          have hix := fun W => (dig16 d hd1 W).1
          have hcv := fun W => (dig16 d hd1 W).2
          obtain ⟨O, hO⟩ : ∃ O, O = dots (PL ++ (digs 16 hi k).map (labD true)) := ⟨_, rfl⟩
          obtain ⟨x, hx⟩ : ∃ x, x = [hexc d] := ⟨_, rfl⟩
          have hx1 : x.length = 1 := by rw [hx]; rfl
          rw [← hO] at hsucc hO1 ⊢
          rw [← hx] at hsucc hcv
          have hsh : (hi : Int) / 2 ^ (4 * k) = (N : Int) := by
            rw [hN]
            have : (2 : Int) ^ (4 * k) = ((16 ^ k : Nat) : Int) := by rw [Int.natCast_pow, Int.pow_mul]; rfl
            rw [this]; exact (Int.natCast_ediv _ _).symm
          have k0 : 0 ≤ 4 * (k : Int) := by omega
          have hcat1 : ¬ 9223372036854775807 < x.length + 1 := by omega
          have hcat2 : ¬ 9223372036854775807 < O.length + (x.length + 1) := by omega
          replace hx := Lib.hid hx
          replace hx1 := Lib.hid hx1
          replace hO := Lib.hid hO
          replace hd := Lib.hid hd
          replace hN := Lib.hid hN
          replace hQ := Lib.hid hQ
          replace hbw := Lib.hid hbw
          clear hN64
          go_wp2_with fail
          go_roundw
          case rel => exact ⟨k + 1, by omega, by go_num, by rw [hsucc.out, ← baN_append, ← baN_append], hQ.out, hbw.out⟩
          case measure => simp [intOf]; omega
        · have hk16 : k = 16 := by omega
          subst hk16
          clear hlt hk
          have hO1 : (dots (PL ++ (digs 16 hi 16).map (labD true))).length ≤ 200 := by
            have := dots_le 3 (PL ++ (digs 16 hi 16).map (labD true)) (fun y hy => by
              rcases List.mem_append.1 hy with h | h
              · exact hP1.out.2 y h
              · exact digs_mem_le (s := true) rfl y h)
            rw [List.length_append, List.length_map, digs_len] at this
            have := hP1.out.1
            omega
          generalize dots (PL ++ (digs 16 hi 16).map (labD true)) = O at *
          have hcat : ¬ 9223372036854775807 < O.length + 8 := by omega
          go_wp2_with fail
          rw [rounds_succ]
          go_wp2_with fail
          go_ret
          exact ⟨by rw [hfin.out, ← baN_append]; rfl, hbw⟩
end Go.Proofs.YthjhokicojgpbaaGreatDoor
