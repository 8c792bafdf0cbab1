/- Wide numbers: PrefixFault. -/
import Derived.Test.YtfpcalgkfagjkaaGreatDoorKrWideB
import Derived.Deep.RegionHeld3
import Derived.Deep.DeepCutAuto
set_option maxRecDepth 100000
namespace Go.Proofs.YtfpcalgkfagjkaaGreatDoor
open Go.RowKit

theorem or4 (a b c d : Nat) (ha : a < 65536) (hb : b < 65536) (hc : c < 65536) (hd : d < 65536) :
    bits .or .u64 (bits .or .u64 (bits .or .u64 (bits .or .u64 0 (a : Int)) ((b : Int) * 65536)) ((c : Int) * 4294967296)) ((d : Int) * 281474976710656) = ((a + b * 65536 + c * 4294967296 + d * 281474976710656 : Nat) : Int) := by
  have e0 : bits .or .u64 0 (a : Int) = ((a : Nat) : Int) := by
    have := u64_or_nat 0 a (by omega) (by omega)
    simpa using this
  have e1 : bits .or .u64 (a : Int) ((b : Int) * 65536) = ((a + b * 65536 : Nat) : Int) := by
    have := u64_or_nat a (b * 65536) (by omega) (by omega)
    rw [show ((b : Int) * 65536) = ((b * 65536 : Nat) : Int) by simp, this, Nat.or_comm, nat_join 16 (b * 65536) a (by omega) (by omega), Nat.add_comm]
  have e2 : bits .or .u64 ((a + b * 65536 : Nat) : Int) ((c : Int) * 4294967296) = ((a + b * 65536 + c * 4294967296 : Nat) : Int) := by
    have := u64_or_nat (a + b * 65536) (c * 4294967296) (by omega) (by omega)
    rw [show ((c : Int) * 4294967296) = ((c * 4294967296 : Nat) : Int) by simp, this, Nat.or_comm, nat_join 32 (c * 4294967296) _ (by omega) (by omega), Nat.add_comm]
  have e3 : bits .or .u64 ((a + b * 65536 + c * 4294967296 : Nat) : Int) ((d : Int) * 281474976710656) = ((a + b * 65536 + c * 4294967296 + d * 281474976710656 : Nat) : Int) := by
    have := u64_or_nat (a + b * 65536 + c * 4294967296) (d * 281474976710656) (by omega) (by omega)
    rw [show ((d : Int) * 281474976710656) = ((d * 281474976710656 : Nat) : Int) by simp, this, Nat.or_comm, nat_join 48 (d * 281474976710656) _ (by omega) (by omega), Nat.add_comm]
  rw [e0, e1, e2, e3]

theorem dig_sum_low (V : Nat) : dig V 0 + dig V 1 * 65536 + dig V 2 * 4294967296 + dig V 3 * 281474976710656 = V % 2 ^ 64 := by
  unfold dig; omega
theorem dig_sum_high (V : Nat) (h : V < 2 ^ 128) : dig V 4 + dig V 5 * 65536 + dig V 6 * 4294967296 + dig V 7 * 281474976710656 = V / 2 ^ 64 := by
  unfold dig; omega

theorem waddr_eq (V : Nat) (s : Bool) (h : V < 2 ^ 128) :
    Value.agg #[.bool (decide (0 < b2i s)), .int .u64 (bits .or .u64 (bits .or .u64 (bits .or .u64 (bits .or .u64 0 (dig V 4 : Int)) ((dig V 5 : Int) * 65536)) ((dig V 6 : Int) * 4294967296)) ((dig V 7 : Int) * 281474976710656)),
      .int .u64 (bits .or .u64 (bits .or .u64 (bits .or .u64 (bits .or .u64 0 (dig V 0 : Int)) ((dig V 1 : Int) * 65536)) ((dig V 2 : Int) * 4294967296)) ((dig V 3 : Int) * 281474976710656))] =
    Value.agg #[.bool s, .int .u64 ((V / 2 ^ 64 : Nat) : Int), .int .u64 ((V % 2 ^ 64 : Nat) : Int)] := by
  rw [or4 _ _ _ _ (dig_lt V 4) (dig_lt V 5) (dig_lt V 6) (dig_lt V 7), or4 _ _ _ _ (dig_lt V 0) (dig_lt V 1) (dig_lt V 2) (dig_lt V 3), dig_sum_low, dig_sum_high V h, b2i_pos]

set_option maxHeartbeats 2000000 in
theorem waddr_any (V : Nat) (s : Bool) (w : World) (hV : V < 2 ^ 128) :
    Calls Tryz.prog 50 #[wV V s] w (GivesV (.agg #[.bool s, .int .u64 ((V / 2 ^ 64 : Nat) : Int), .int .u64 ((V % 2 ^ 64 : Nat) : Int)]) w) := by
  have H := Lib.hid (waddr_eq V s hV)
  clear hV
  have l0 := dig_lt V 0
  have l1 := dig_lt V 1
  have l2 := dig_lt V 2
  have l3 := dig_lt V 3
  have l4 := dig_lt V 4
  have l5 := dig_lt V 5
  have l6 := dig_lt V 6
  have l7 := dig_lt V 7
  go_enter Tryz.func50, Tryz.ntmps50
  go_wp2_with fail
  refine wp_loop_rounds 5 ?_
  iterate 4
    rw [rounds_succ]
    go_wp2_with fail
    go_region
    go_wp2_with fail
    go_region
    go_wp2_with fail
  rw [rounds_succ]
  go_wp2_with fail
  refine bodyPost_ret ?_ rfl ⟨congrArg Ending.returned H.out, ?_⟩
  · simp [results, Tryz.results50, go_sem]
  · iterate 8 (refine Below.drew ?_)
    exact (((Below.refl _ _).alloc (Nat.le_refl _) _).alloc (by simp) _).alloc (by simp; omega) _

abbrev maskV (s : Bool) (hi lo n : Int) : Value := .agg #[.bool s, .int .u64 ((clr (num hi lo) (lenZ s - n).toNat / 2 ^ 64 : Nat) : Int), .int .u64 ((clr (num hi lo) (lenZ s - n).toNat % 2 ^ 64 : Nat) : Int), .int .i64 n]

set_option maxHeartbeats 1000000 in
theorem maskOf_any (s : Bool) (hi lo n : Int) (w : World) (h1 : 0 ≤ hi) (h2 : hi < 18446744073709551616) (h3 : 0 ≤ lo) (h4 : lo < 18446744073709551616) (hn1 : 0 ≤ n) (hn2 : n ≤ lenZ s) :
    Calls Tryz.prog 85 #[.agg #[.bool s, .int .u64 hi, .int .u64 lo], .int .i64 n] w (GivesV (maskV s hi lo n) w) := by
  have hB := Blk.new (w.alloc (.cells #[.bool s, .int .u64 hi, .int .u64 lo] 30)) [.bool false, .int .u64 0, .int .u64 0, .int .i64 0] 35
  simp at hB
  go_enter Tryz.func85, Tryz.ntmps85
  go_wp2_with fail
  refine (firstOf_any _ _ _ _ _ h1 h2 h3 h4 hn1 hn2).mono ?_
  rintro e w1 ⟨rfl, hb1⟩
  have hB1 := hB.below hb1
  have hz1 := hb1.size
  simp at hz1
  have hC1 : Below w.heap.size w w1 := (((Below.refl _ _).alloc (Nat.le_refl _) _).alloc (by simp) _).trans (hb1.mono (by simp; omega))
  clear hb1 hB
  go_wp2_with fail
  refine (waddr_any _ _ _ (clr_lt (num_lt h2 h4))).mono ?_
  rintro e w2 ⟨rfl, hb2⟩
  obtain ⟨u0, u1, u2, u3, f0, f1, f2, f3⟩ := (hB1.below hb2).four
  have hC2 := hC1.trans (hb2.mono (by omega))
  clear hb2 hB1 hC1
  go_wp2_with fail
  refine bodyPost_ret (v := maskV s hi lo n) ?_ rfl ⟨rfl, ?_⟩
  · simp [results, Tryz.results85, go_sem, u0, u1, u2, u3]
  · exact (((hC2.setCell (p := ⟨w.heap.size + 1, 0, none⟩) (by simp) _).setCell (p := ⟨w.heap.size + 1, 1, none⟩) (by simp) _).setCell (p := ⟨w.heap.size + 1, 2, none⟩) (by simp) _).setCell (p := ⟨w.heap.size + 1, 3, none⟩) (by simp) _

def wideEq (A B : Nat) (s t : Bool) : Bool := dig A 0 == dig B 0 && (dig A 1 == dig B 1 && (dig A 2 == dig B 2 && (dig A 3 == dig B 3 && (dig A 4 == dig B 4 && (dig A 5 == dig B 5 && (dig A 6 == dig B 6 && (dig A 7 == dig B 7 && b2i s == b2i t)))))))

set_option maxHeartbeats 1000000 in
@[go_sem] theorem wide_equalIn (A B : Nat) (s t : Bool) (w : World) : (Op.equalIn 10000 77 (wV A s) (wV B t)).run Tryz.prog w = .ok (wideEq A B s t) w := by
  have u3 := Tryz.underlying3
  have a3 := Tryz.isAgg3
  have z3 := Tryz.sizeOf3
  have ei : ∀ a b : Nat, ((a : Int) = (b : Int)) = (a = b) := fun a b => propext Int.ofNat_inj
  rw [show (10000 : Nat) = 9999 + 1 from rfl, Op.equalIn]
  simp only [Sem.run_bind, run_underlying Tryz.underlying77, Result.andThen_ok]
  simp only [Std.Legacy.Range.forIn_eq_forIn_range', Std.Legacy.Range.size, Nat.sub_zero, Nat.add_sub_cancel, Nat.div_one, List.range'_succ, List.range'_zero, List.forIn_cons, List.forIn_nil]
  go_simp
  unfold wideEq
  (repeat' split) <;> simp_all

def neqW (x y : Operand) (a b : Value) : Sem Next := do
  let v ← (do eqGuard .neq 77 x y a b; binOp .neq 77 a b)
  pure (.value v)
@[go_sem ↓ high] theorem execOp_neqW (ρ : Operand → Value) (dst : Option Tmp) (x y : Operand) (r ty : TypeId) (pos : String) (after : Array Edge) (guard : Option (Nat × Bool)) :
    execOp ρ ⟨dst, .binOp .neq 77 x y r, ty, pos, after, guard⟩ = neqW x y (ρ x) (ρ y) := rfl
@[go_sem high] theorem execOp_neqW' (ρ : Operand → Value) (dst : Option Tmp) (x y : Operand) (r ty : TypeId) (pos : String) (after : Array Edge) (guard : Option (Nat × Bool)) :
    execOp ρ ⟨dst, .binOp .neq 77 x y r, ty, pos, after, guard⟩ = neqW x y (ρ x) (ρ y) := rfl
@[go_sem] theorem run_neqW (x y : Operand) (A B : Nat) (s t : Bool) (w : World) : (neqW x y (wV A s) (wV B t)).run Tryz.prog w = .ok (.value (.bool (!wideEq A B s t))) w := by
  unfold neqW
  go_simp

theorem wideEq_iff (A B : Nat) (s : Bool) (hA : A < 2 ^ 128) (hB : B < 2 ^ 128) : wideEq A B s s = decide (A = B) := by
  by_cases h : A = B
  · subst h; simp [wideEq]
  · rw [decide_eq_false h]
    cases hw : wideEq A B s s
    · rfl
    · exfalso
      unfold wideEq at hw
      simp only [Bool.and_eq_true, beq_iff_eq] at hw
      obtain ⟨a0, a1, a2, a3, a4, a5, a6, a7, _⟩ := hw
      refine h (dig_ext hA hB fun j hj => ?_)
      match j, hj with
      | 0, _ => exact a0
      | 1, _ => exact a1
      | 2, _ => exact a2
      | 3, _ => exact a3
      | 4, _ => exact a4
      | 5, _ => exact a5
      | 6, _ => exact a6
      | 7, _ => exact a7

set_option maxHeartbeats 1000000 in
theorem prefixFault_any (s : Bool) (hi lo n : Int) (w : World) (h1 : 0 ≤ hi) (h2 : hi < 18446744073709551616) (h3 : 0 ≤ lo) (h4 : lo < 18446744073709551616) :
    Calls Tryz.prog 34 #[.agg #[.bool s, .int .u64 hi, .int .u64 lo, .int .i64 n]] w (GivesV (.int .i64 (pfF s hi lo n)) w) := by
  have hB := Blk.new w [.bool s, .int .u64 hi, .int .u64 lo, .int .i64 n] 35
  go_enter Tryz.func34, Tryz.ntmps34
  go_wp2_with fail
  refine (addrFault_any _ _ _ _ h1).mono ?_
  rintro e w1 ⟨rfl, hb1⟩
  have hB1 := hB.below hb1
  obtain ⟨u0, u1, u2, u3, f0, f1, f2, f3⟩ := hB1.four
  have hC1 : Below w.heap.size w w1 := ((Below.refl _ _).alloc (Nat.le_refl _) _).trans (hb1.mono (by simp))
  have hz1 := hb1.size
  simp at hz1
  clear hb1 hB
  by_cases hA : adF s hi lo = 0
  · have H1 : (adF s hi lo != 0) = false := by simp [hA]
    have HA := Lib.hid hA
    clear hA
    go_upto_region 4 with fail
    go_cut [16] (fun s16 wx => s16 = .bool (!inB n 0 (lenZ s)) ∧ Blk wx w.heap.size [.bool s, .int .u64 hi, .int .u64 lo, .int .i64 n] 35 ∧ Below w.heap.size w wx)
    case first =>
      go_region_held3 (fun w' => w'.cell? ⟨w.heap.size, 0, none⟩ = some (.bool s) ∧ w'.cell? ⟨w.heap.size, 1, none⟩ = some (.int .u64 hi) ∧ w'.cell? ⟨w.heap.size, 2, none⟩ = some (.int .u64 lo) ∧ w'.cell? ⟨w.heap.size, 3, none⟩ = some (.int .i64 n)) (first | exact ⟨u0, u1, u2, u3⟩ | exact ⟨t0, t1, t2, t3⟩)
        (first
          | (go_at_call 68; refine (length_any _ _ _ _).mono ?_; rintro e w2 ⟨rfl, hb2⟩; have hB2 := (by first | exact hB1.below hb2 | exact hB1.drew.below hb2 : Blk w2 w.heap.size [.bool s, .int .u64 hi, .int .u64 lo, .int .i64 n] 35); obtain ⟨t0, t1, t2, t3, g0, g1, g2, g3⟩ := hB2.four)
          | (go_at_call 67; refine (in_any _ _ _ _).mono ?_; rintro e w3 ⟨rfl, rfl⟩))
      all_goals (go_wp2_with fail; go_meet; exact ⟨rfl, hB2, hC1.drew.trans (hb2.mono (by simp; omega))⟩)
    case rest =>
      obtain ⟨rfl, hB2, hC2⟩ := hcut
      obtain ⟨t0, t1, t2, t3, g0, g1, g2, g3⟩ := hB2.four
      cases hI : inB n 0 (lenZ s)
      · have H := Lib.hid (show pfF s hi lo n = 1 by unfold pfF; rw [if_neg (by simp [HA.out]), if_pos hI])
        go_wp2_with fail
        go_ret
        exact ⟨by rw [H.out]; rfl, hC2⟩
      · have hI' : 0 ≤ n ∧ n ≤ lenZ s := of_decide_eq_true hI
        have hV := num_lt (hi := hi) (lo := lo) h2 h4
        have hW : clr (num hi lo) (lenZ s - n).toNat < 2 ^ 128 := clr_lt hV
        have HW := Lib.hid (wideEq_iff _ _ s hW hV)
        have F := fun w' => firstOf_any s hi lo n w' h1 h2 h3 h4 hI'.1 hI'.2
        have O := fun w' => of_any s hi lo w' h1 h2 h3 h4
        have HI := Lib.hid hI
        clear hI hW hV
        generalize hgA : clr (num hi lo) (lenZ s - n).toNat = A at F HW
        generalize hgB : num hi lo = B at O HW
        have HgA := Lib.hid hgA
        have HgB := Lib.hid hgB
        have HF := Lib.hid F
        have HO := Lib.hid O
        clear hgA hgB F O
        go_upto_region 6 with fail
        go_cut [25] (fun s25 wx => s25 = .bool (!wideEq A B s s) ∧ Below w.heap.size w wx)
        case first =>
          go_region_held3 (fun w' => w'.cell? ⟨w.heap.size, 0, none⟩ = some (.bool s) ∧ w'.cell? ⟨w.heap.size, 1, none⟩ = some (.int .u64 hi) ∧ w'.cell? ⟨w.heap.size, 2, none⟩ = some (.int .u64 lo) ∧ w'.cell? ⟨w.heap.size, 3, none⟩ = some (.int .i64 n)) (first | exact ⟨t0, t1, t2, t3⟩ | exact ⟨v0, v1, v2, v3⟩ | exact ⟨x0, x1, x2, x3⟩)
            (first
              | (go_at_call 69; refine (HF.out _).mono ?_; rintro e w2 ⟨rfl, hb2⟩; have hB3 := (by first | exact hB2.below hb2 | exact hB2.drew.below hb2 : Blk w2 w.heap.size [.bool s, .int .u64 hi, .int .u64 lo, .int .i64 n] 35); have hC3 := hC2.drew.trans (hb2.mono hC2.size); have hx3 := hC3.size; obtain ⟨v0, v1, v2, v3, e0, e1, e2, e3⟩ := hB3.four)
              | (go_at_call 44; refine (HO.out _).mono ?_; rintro e w3 ⟨rfl, hb3⟩; obtain ⟨x0, x1, x2, x3, _⟩ := (hB3.below hb3).four))
          all_goals (go_wp2_with fail; go_meet; exact ⟨rfl, hC3.trans (hb3.mono hx3)⟩)
        case rest =>
          obtain ⟨rfl, hC3⟩ := hcut
          rw [HW.out]
          by_cases hE : A = B
          · have H := Lib.hid (show pfF s hi lo n = 0 by unfold pfF; rw [if_neg (by simp [HA.out]), if_neg (by rw [HI.out]; decide), if_pos (by rw [HgA.out, HgB.out]; exact hE)])
            rw [decide_eq_true hE]
            clear hE
            go_wp2_with fail
            go_ret
            exact ⟨by rw [H.out]; rfl, hC3⟩
          · have H := Lib.hid (show pfF s hi lo n = 3 by unfold pfF; rw [if_neg (by simp [HA.out]), if_neg (by rw [HI.out]; decide), if_neg (by rw [HgA.out, HgB.out]; exact hE)])
            rw [decide_eq_false hE]
            clear hE
            go_wp2_with fail
            go_ret
            exact ⟨by rw [H.out]; rfl, hC3⟩
  · have H1 : (adF s hi lo != 0) = true := by simp [hA]
    have H := Lib.hid (show pfF s hi lo n = adF s hi lo by unfold pfF; rw [if_pos hA]; rcases adF_two s hi lo with h | h <;> simp_all)
    clear hA
    go_wp2_with fail
    go_ret
    exact ⟨by rw [H.out]; rfl, hC1⟩
end Go.Proofs.YtfpcalgkfagjkaaGreatDoor
