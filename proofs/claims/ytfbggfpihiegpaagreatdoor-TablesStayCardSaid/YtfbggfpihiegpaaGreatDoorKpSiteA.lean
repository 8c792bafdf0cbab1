/- Sites: Via, ViaOf, Site, SiteOf; errs, when. -/
import Derived.Test.YtfbggfpihiegpaaGreatDoorKpAddressed
import Derived.Deep.RegionHeld3
import Derived.Deep.DeepCutAuto
namespace Go.Proofs.YtfbggfpihiegpaaGreatDoor
open Go.RowKit

theorem or4 (a b c d : Nat) (ha : a < 65536) (hb : b < 65536) (hc : c < 65536) (hd : d < 65536) :
    bits .or .u64 (bits .or .u64 (bits .or .u64 (bits .or .u64 0 (a : Int)) ((b : Int) * 65536)) ((c : Int) * 4294967296)) ((d : Int) * 281474976710656) = ((a + b * 65536 + c * 4294967296 + d * 281474976710656 : Nat) : Int) := by
  have e0 : bits .or .u64 0 (a : Int) = ((a : Nat) : Int) := by
    have := u64_or_nat 0 a (by omega) (by omega)
    simpa using this
  have e1 : bits .or .u64 (a : Int) ((b : Int) * 65536) = ((a + b * 65536 : Nat) : Int) := by
    have := u64_or_nat a (b * 65536) (by omega) (by omega)
    rw [show ((b : Int) * 65536) = ((b * 65536 : Nat) : Int) by simp, this, Nat.or_comm, nat_join 16 (b * 65536) a (by omega) (by omega), Nat.add_comm]
  have e2 : bits .or .u64 ((a + b * 65536 : Nat) : Int) ((c : Int) * 4294967296) = ((a + b * 65536 + c * 4294967296 : Nat) : Int) := by
    have := u64_or_nat (a + b * 65536) (c * 4294967296) (by omega) (by omega)
    rw [show ((c : Int) * 4294967296) = ((c * 4294967296 : Nat) : Int) by simp, this, Nat.or_comm, nat_join 32 (c * 4294967296) _ (by omega) (by omega), Nat.add_comm]
  have e3 : bits .or .u64 ((a + b * 65536 + c * 4294967296 : Nat) : Int) ((d : Int) * 281474976710656) = ((a + b * 65536 + c * 4294967296 + d * 281474976710656 : Nat) : Int) := by
    have := u64_or_nat (a + b * 65536 + c * 4294967296) (d * 281474976710656) (by omega) (by omega)
    rw [show ((d : Int) * 281474976710656) = ((d * 281474976710656 : Nat) : Int) by simp, this, Nat.or_comm, nat_join 48 (d * 281474976710656) _ (by omega) (by omega), Nat.add_comm]
  rw [e0, e1, e2, e3]

theorem dig_sum_low (V : Nat) : dig V 0 + dig V 1 * 65536 + dig V 2 * 4294967296 + dig V 3 * 281474976710656 = V % 2 ^ 64 := by
  unfold dig; omega
theorem dig_sum_high (V : Nat) (h : V < 2 ^ 128) : dig V 4 + dig V 5 * 65536 + dig V 6 * 4294967296 + dig V 7 * 281474976710656 = V / 2 ^ 64 := by
  unfold dig; omega

theorem waddr_eq (V : Nat) (s : Bool) (h : V < 2 ^ 128) :
    Value.agg #[.bool (decide (0 < b2i s)), .int .u64 (bits .or .u64 (bits .or .u64 (bits .or .u64 (bits .or .u64 0 (dig V 4 : Int)) ((dig V 5 : Int) * 65536)) ((dig V 6 : Int) * 4294967296)) ((dig V 7 : Int) * 281474976710656)),
      .int .u64 (bits .or .u64 (bits .or .u64 (bits .or .u64 (bits .or .u64 0 (dig V 0 : Int)) ((dig V 1 : Int) * 65536)) ((dig V 2 : Int) * 4294967296)) ((dig V 3 : Int) * 281474976710656))] =
    Value.agg #[.bool s, .int .u64 ((V / 2 ^ 64 : Nat) : Int), .int .u64 ((V % 2 ^ 64 : Nat) : Int)] := by
  rw [or4 _ _ _ _ (dig_lt V 4) (dig_lt V 5) (dig_lt V 6) (dig_lt V 7), or4 _ _ _ _ (dig_lt V 0) (dig_lt V 1) (dig_lt V 2) (dig_lt V 3), dig_sum_low, dig_sum_high V h, b2i_pos]

set_option maxHeartbeats 2000000 in
theorem waddr_any (V : Nat) (s : Bool) (w : World) (hV : V < 2 ^ 128) :
    Calls Tryz.prog 62 #[wV V s] w (GivesV (.agg #[.bool s, .int .u64 ((V / 2 ^ 64 : Nat) : Int), .int .u64 ((V % 2 ^ 64 : Nat) : Int)]) w) := by
  have H := Lib.hid (waddr_eq V s hV)
  clear hV
  have l0 := dig_lt V 0
  have l1 := dig_lt V 1
  have l2 := dig_lt V 2
  have l3 := dig_lt V 3
  have l4 := dig_lt V 4
  have l5 := dig_lt V 5
  have l6 := dig_lt V 6
  have l7 := dig_lt V 7
  go_enter Tryz.func62, Tryz.ntmps62
  go_wp2_with fail
  refine wp_loop_rounds 5 ?_
  iterate 4
    rw [rounds_succ]
    go_wp2_with fail
    go_region
    go_wp2_with fail
    go_region
    go_wp2_with fail
  rw [rounds_succ]
  go_wp2_with fail
  refine bodyPost_ret ?_ rfl ⟨congrArg Ending.returned H.out, ?_⟩
  · simp [results, Tryz.results62, go_sem]
  · iterate 8 (refine Below.drew ?_)
    exact (((Below.refl _ _).alloc (Nat.le_refl _) _).alloc (by simp) _).alloc (by simp; omega) _

abbrev maskV (s : Bool) (hi lo n : Int) : Value := .agg #[.bool s, .int .u64 ((clr (num hi lo) (lenZ s - n).toNat / 2 ^ 64 : Nat) : Int), .int .u64 ((clr (num hi lo) (lenZ s - n).toNat % 2 ^ 64 : Nat) : Int), .int .i64 n]

set_option maxHeartbeats 1000000 in
theorem maskOf_any (s : Bool) (hi lo n : Int) (w : World) (h1 : 0 ≤ hi) (h2 : hi < 18446744073709551616) (h3 : 0 ≤ lo) (h4 : lo < 18446744073709551616) (hn1 : 0 ≤ n) (hn2 : n ≤ lenZ s) :
    Calls Tryz.prog 35 #[.agg #[.bool s, .int .u64 hi, .int .u64 lo], .int .i64 n] w (GivesV (maskV s hi lo n) w) := by
  have hB := Blk.new (w.alloc (.cells #[.bool s, .int .u64 hi, .int .u64 lo] 30)) [.bool false, .int .u64 0, .int .u64 0, .int .i64 0] 41
  simp at hB
  go_enter Tryz.func35, Tryz.ntmps35
  go_wp2_with fail
  refine (firstOf_any _ _ _ _ _ h1 h2 h3 h4 hn1 hn2).mono ?_
  rintro e w1 ⟨rfl, hb1⟩
  have hB1 := hB.below hb1
  have hz1 := hb1.size
  simp at hz1
  have hC1 : Below w.heap.size w w1 := (((Below.refl _ _).alloc (Nat.le_refl _) _).alloc (by simp) _).trans (hb1.mono (by simp; omega))
  clear hb1 hB
  go_wp2_with fail
  refine (waddr_any _ _ _ (clr_lt (num_lt h2 h4))).mono ?_
  rintro e w2 ⟨rfl, hb2⟩
  obtain ⟨u0, u1, u2, u3, f0, f1, f2, f3⟩ := (hB1.below hb2).four
  have hC2 := hC1.trans (hb2.mono (by omega))
  clear hb2 hB1 hC1
  go_wp2_with fail
  refine bodyPost_ret (v := maskV s hi lo n) ?_ rfl ⟨rfl, ?_⟩
  · simp [results, Tryz.results35, go_sem, u0, u1, u2, u3]
  · exact (((hC2.setCell (p := ⟨w.heap.size + 1, 0, none⟩) (by simp) _).setCell (p := ⟨w.heap.size + 1, 1, none⟩) (by simp) _).setCell (p := ⟨w.heap.size + 1, 2, none⟩) (by simp) _).setCell (p := ⟨w.heap.size + 1, 3, none⟩) (by simp) _

def wideEq (A B : Nat) (s t : Bool) : Bool := dig A 0 == dig B 0 && (dig A 1 == dig B 1 && (dig A 2 == dig B 2 && (dig A 3 == dig B 3 && (dig A 4 == dig B 4 && (dig A 5 == dig B 5 && (dig A 6 == dig B 6 && (dig A 7 == dig B 7 && b2i s == b2i t)))))))

set_option maxHeartbeats 1000000 in
@[go_sem] theorem wide_equalIn (A B : Nat) (s t : Bool) (w : World) : (Op.equalIn 10000 97 (wV A s) (wV B t)).run Tryz.prog w = .ok (wideEq A B s t) w := by
  have u3 := Tryz.underlying3
  have a3 := Tryz.isAgg3
  have z3 := Tryz.sizeOf3
  have ei : ∀ a b : Nat, ((a : Int) = (b : Int)) = (a = b) := fun a b => propext Int.ofNat_inj
  rw [show (10000 : Nat) = 9999 + 1 from rfl, Op.equalIn]
  simp only [Sem.run_bind, run_underlying Tryz.underlying97, Result.andThen_ok]
  simp only [Std.Legacy.Range.forIn_eq_forIn_range', Std.Legacy.Range.size, Nat.sub_zero, Nat.add_sub_cancel, Nat.div_one, List.range'_succ, List.range'_zero, List.forIn_cons, List.forIn_nil]
  go_simp
  unfold wideEq
  (repeat' split) <;> simp_all

def neqW (x y : Operand) (a b : Value) : Sem Next := do
  let v ← (do eqGuard .neq 97 x y a b; binOp .neq 97 a b)
  pure (.value v)
@[go_sem ↓ high] theorem execOp_neqW (ρ : Operand → Value) (dst : Option Tmp) (x y : Operand) (r ty : TypeId) (pos : String) (after : Array Edge) (guard : Option (Nat × Bool)) :
    execOp ρ ⟨dst, .binOp .neq 97 x y r, ty, pos, after, guard⟩ = neqW x y (ρ x) (ρ y) := rfl
@[go_sem high] theorem execOp_neqW' (ρ : Operand → Value) (dst : Option Tmp) (x y : Operand) (r ty : TypeId) (pos : String) (after : Array Edge) (guard : Option (Nat × Bool)) :
    execOp ρ ⟨dst, .binOp .neq 97 x y r, ty, pos, after, guard⟩ = neqW x y (ρ x) (ρ y) := rfl
@[go_sem] theorem run_neqW (x y : Operand) (A B : Nat) (s t : Bool) (w : World) : (neqW x y (wV A s) (wV B t)).run Tryz.prog w = .ok (.value (.bool (!wideEq A B s t))) w := by
  unfold neqW
  go_simp


theorem belowN {B m : Nat} {a w : World} (h : Below B a w) : Below B a (w.drewN m) := ⟨h.os, h.tape, h.output, h.size, h.block⟩
theorem below_four {B p : Nat} {w W : World} (h : Below B w W) (hp : B ≤ p) (x0 x1 x2 x3 : Value) : Below B w ((((W.setCell ⟨p, 0, none⟩ x0).setCell ⟨p, 1, none⟩ x1).setCell ⟨p, 2, none⟩ x2).setCell ⟨p, 3, none⟩ x3) :=
  (Below.setCell (p := ⟨p, 3, none⟩) (Below.setCell (p := ⟨p, 2, none⟩) (Below.setCell (p := ⟨p, 1, none⟩) (Below.setCell (p := ⟨p, 0, none⟩) h hp x0) hp x1) hp x2) hp x3)

set_option maxHeartbeats 1000000 in
theorem spanMask_any (s : Bool) (hi lo n : Int) (w : World) (h1 : 0 ≤ hi) (h2 : hi < 18446744073709551616) (h3 : 0 ≤ lo) (h4 : lo < 18446744073709551616) (hn1 : 0 ≤ n) (hn2 : n ≤ lenZ s) :
    Calls Tryz.prog 71 #[.agg #[.bool s, .int .u64 hi, .int .u64 lo], .int .i64 n] w (GivesV (maskV s hi lo n) w) := by
  have hl : lenZ s ≤ 128 := by cases s <;> decide
  obtain ⟨N, hN⟩ := Int.eq_ofNat_of_zero_le (show 0 ≤ lenZ s - n by omega)
  have hN' : N ≤ 128 := by omega
  obtain ⟨e1, e2⟩ := clr_halves hi lo N hN' h1 h2 h3 h4
  have HE := Lib.hid (show (Value.agg #[.bool s, .int .u64 (bits .andNot .u64 hi (onesH N : Int)), .int .u64 (bits .andNot .u64 lo (onesL N : Int)), .int .i64 n]) = maskV s hi lo n by rw [e1, e2]; unfold maskV; rw [hN, Int.toNat_natCast])
  clear e1 e2
  have hA := (Blk.new w [.bool s, .int .u64 hi, .int .u64 lo] 30).alloc (.cells #[.bool false, .int .u64 0, .int .u64 0, .int .i64 0] 41)
  have hB := Blk.new (w.alloc (.cells #[.bool s, .int .u64 hi, .int .u64 lo] 30)) [.bool false, .int .u64 0, .int .u64 0, .int .i64 0] 41
  simp at hB
  have hN2 := Lib.hid hN
  clear hN
  go_enter Tryz.func71, Tryz.ntmps71
  go_wp2_with fail
  refine (spanLength_any _ _).mono ?_
  rintro e w1 ⟨rfl, rfl⟩
  go_wp2_with fail
  rw [hN2.out]
  refine (ones_any _ hN' _).mono ?_
  rintro e w1 ⟨rfl, m, rfl⟩
  go_wp2_with fail
  refine bodyPost_ret ?_ rfl ⟨congrArg Ending.returned HE.out, ?_⟩
  · simp [results, Tryz.results71, go_sem]
  · exact below_four (belowN (((Below.refl _ _).alloc (Nat.le_refl _) _).alloc (by simp) _)) (by simp) _ _ _ _

abbrev zeroP : Value := .agg #[.bool false, .int .u64 0, .int .u64 0, .int .i64 0]
abbrev pfR (p : Value) (e : Int) : Value := .tuple #[p, .int .i64 e]

set_option maxHeartbeats 1000000 in
theorem mask_fault (s : Bool) (hi lo n : Int) (w : World) (hA : adF s hi lo ≠ 0) :
    Calls Tryz.prog 66 #[.agg #[.bool s, .int .u64 hi, .int .u64 lo], .int .i64 n] w (GivesV (pfR zeroP (adF s hi lo)) w) := by
  have hB := Blk.new (w.alloc (.cells #[.bool s, .int .u64 hi, .int .u64 lo] 30)) [.bool false, .int .u64 0, .int .u64 0, .int .i64 0] 41
  simp at hB
  have H1 : (adF s hi lo != 0) = true := by simp [hA]
  clear hA
  go_enter Tryz.func66, Tryz.ntmps66
  go_wp2_with fail
  refine (checkAddr_any _ _ _ _).mono ?_
  rintro e w1 ⟨rfl, hb1⟩
  obtain ⟨u0, u1, u2, u3, f0, f1, f2, f3⟩ := (hB.below hb1).four
  have hC1 : Below w.heap.size w w1 := (((Below.refl _ _).alloc (Nat.le_refl _) _).alloc (by simp) _).trans (hb1.mono (by simp; omega))
  clear hb1 hB
  go_wp2_with fail
  refine bodyPost_ret (v := pfR zeroP (adF s hi lo)) ?_ rfl ⟨rfl, ?_⟩
  · simp [results, Tryz.results66, go_sem, u0, u1, u2, u3]
  · exact below_four hC1 (by simp) _ _ _ _

set_option maxHeartbeats 1000000 in
theorem mask_range (s : Bool) (hi lo n : Int) (w : World) (hA : adF s hi lo = 0) (hn : n < 0 ∨ lenZ s < n) :
    Calls Tryz.prog 66 #[.agg #[.bool s, .int .u64 hi, .int .u64 lo], .int .i64 n] w (GivesV (pfR zeroP 1) w) := by
  have hD := (Blk.new w [.bool s, .int .u64 hi, .int .u64 lo] 30).alloc (.cells #[.bool false, .int .u64 0, .int .u64 0, .int .i64 0] 41)
  have hB := Blk.new (w.alloc (.cells #[.bool s, .int .u64 hi, .int .u64 lo] 30)) [.bool false, .int .u64 0, .int .u64 0, .int .i64 0] 41
  simp at hB
  have H1 : (adF s hi lo != 0) = false := by simp [hA]
  have HA := Lib.hid hA
  clear hA
  rcases hn with hn | hn
  · go_enter Tryz.func66, Tryz.ntmps66
    go_wp2_with fail
    refine (checkAddr_any _ _ _ _).mono ?_
    rintro e w1 ⟨rfl, hb1⟩
    obtain ⟨u0, u1, u2, u3, f0, f1, f2, f3⟩ := (hB.below hb1).four
    have hC1 : Below w.heap.size w w1 := (((Below.refl _ _).alloc (Nat.le_refl _) _).alloc (by simp) _).trans (hb1.mono (by simp; omega))
    clear hb1 hB
    go_wp2_with fail
    refine bodyPost_ret (v := pfR zeroP 1) ?_ rfl ⟨rfl, ?_⟩
    · simp [results, Tryz.results66, go_sem, u0, u1, u2, u3]
    · exact below_four hC1 (by simp) _ _ _ _
  · have hn' : ¬ n < 0 := by cases s <;> simp [lenZ] at hn <;> omega
    go_enter Tryz.func66, Tryz.ntmps66
    go_wp2_with fail
    refine (checkAddr_any _ _ _ _).mono ?_
    rintro e w1 ⟨rfl, hb1⟩
    obtain ⟨u0, u1, u2, u3, f0, f1, f2, f3⟩ := (hB.below hb1).four
    obtain ⟨a0, a1, a2, _⟩ := (hD.below hb1).three
    have hC1 : Below w.heap.size w w1 := (((Below.refl _ _).alloc (Nat.le_refl _) _).alloc (by simp) _).trans (hb1.mono (by simp; omega))
    clear hb1 hB hD
    go_wp2_with fail
    refine (spanLength_any _ _).mono ?_
    rintro e w2 ⟨rfl, rfl⟩
    go_wp2_with fail
    refine bodyPost_ret (v := pfR zeroP 1) ?_ rfl ⟨rfl, ?_⟩
    · simp [results, Tryz.results66, go_sem, u0, u1, u2, u3]
    · exact below_four hC1 (by simp) _ _ _ _

set_option maxHeartbeats 1000000 in
theorem mask_ok (s : Bool) (hi lo n : Int) (w : World) (h1 : 0 ≤ hi) (h2 : hi < 18446744073709551616) (h3 : 0 ≤ lo) (h4 : lo < 18446744073709551616) (hA : adF s hi lo = 0) (hn1 : 0 ≤ n) (hn2 : n ≤ lenZ s) :
    Calls Tryz.prog 66 #[.agg #[.bool s, .int .u64 hi, .int .u64 lo], .int .i64 n] w (GivesV (pfR (maskV s hi lo n) 0) w) := by
  have hD := (Blk.new w [.bool s, .int .u64 hi, .int .u64 lo] 30).alloc (.cells #[.bool false, .int .u64 0, .int .u64 0, .int .i64 0] 41)
  have hB := Blk.new (w.alloc (.cells #[.bool s, .int .u64 hi, .int .u64 lo] 30)) [.bool false, .int .u64 0, .int .u64 0, .int .i64 0] 41
  simp at hB
  have H1 : (adF s hi lo != 0) = false := by simp [hA]
  have HA := Lib.hid hA
  clear hA
  have hn' : ¬ n < 0 := by omega
  have hn'' : ¬ lenZ s < n := by omega
  go_enter Tryz.func66, Tryz.ntmps66
  go_wp2_with fail
  refine (checkAddr_any _ _ _ _).mono ?_
  rintro e w1 ⟨rfl, hb1⟩
  have hB1 := hB.below hb1
  obtain ⟨a0, a1, a2, _⟩ := (hD.below hb1).three
  have hC1 : Below w.heap.size w w1 := (((Below.refl _ _).alloc (Nat.le_refl _) _).alloc (by simp) _).trans (hb1.mono (by simp; omega))
  clear hb1 hB hD
  go_wp2_with fail
  refine (spanLength_any _ _).mono ?_
  rintro e w2 ⟨rfl, rfl⟩
  go_wp2_with fail
  refine (spanMask_any _ _ _ _ _ h1 h2 h3 h4 hn1 hn2).mono ?_
  rintro e w2 ⟨rfl, hb2⟩
  obtain ⟨u0, u1, u2, u3, f0, f1, f2, f3⟩ := (hB1.below hb2).four
  have hC2 := hC1.trans (hb2.mono hC1.size)
  clear hb2 hB1 hC1
  go_wp2_with fail
  refine bodyPost_ret (v := pfR (maskV s hi lo n) 0) ?_ rfl ⟨rfl, ?_⟩
  · simp [results, Tryz.results66, go_sem, u0, u1, u2, u3]
  · exact below_four hC2 (by simp) _ _ _ _

theorem mask_same (hi lo : Int) (k : Nat) (h1 : 0 ≤ hi) (h3 : 0 ≤ lo) (h4 : lo < 18446744073709551616) (h : clr (num hi lo) k = num hi lo) :
    ((clr (num hi lo) k / 2 ^ 64 : Nat) : Int) = hi ∧ ((clr (num hi lo) k % 2 ^ 64 : Nat) : Int) = lo := by
  rw [h, num_div hi lo h4, num_mod hi lo h4]
  exact ⟨Int.toNat_of_nonneg h1, Int.toNat_of_nonneg h3⟩

theorem mask_other (hi lo : Int) (k : Nat) (h4 : lo < 18446744073709551616) (h : ¬ clr (num hi lo) k = num hi lo) (a : ((clr (num hi lo) k / 2 ^ 64 : Nat) : Int) = hi) :
    ¬ ((clr (num hi lo) k % 2 ^ 64 : Nat) : Int) = lo := by
  intro b
  have e1 := num_div hi lo h4
  have e2 := num_mod hi lo h4
  generalize clr (num hi lo) k = C at *
  generalize hV : num hi lo = V at *
  omega

set_option maxHeartbeats 1000000 in
theorem checkPrefix_fault (s : Bool) (hi lo n : Int) (w : World) (hA : adF s hi lo ≠ 0) :
    Calls Tryz.prog 40 #[.agg #[.bool s, .int .u64 hi, .int .u64 lo, .int .i64 n]] w (GivesV (.int .i64 (pfF s hi lo n)) w) := by
  have H := Lib.hid (show pfF s hi lo n = adF s hi lo by unfold pfF; rw [if_pos hA]; rcases adF_two s hi lo with h | h <;> simp_all)
  have H1 : (adF s hi lo == 0) = false := by simp [hA]
  have HM := fun w' => Lib.hid (mask_fault s hi lo n w' hA)
  clear hA
  go_enter Tryz.func40, Tryz.ntmps40
  go_wp2_with fail
  refine (HM _).out.mono ?_
  rintro e w1 ⟨rfl, hb1⟩
  have hC1 : Below w.heap.size w w1 := ((Below.refl _ _).alloc (Nat.le_refl _) _).trans (hb1.mono (by simp))
  clear hb1
  go_wp2_with fail
  go_ret
  exact ⟨by rw [H.out]; rfl, hC1.alloc hC1.size _⟩

set_option maxHeartbeats 1000000 in
theorem checkPrefix_range (s : Bool) (hi lo n : Int) (w : World) (hA : adF s hi lo = 0) (hn : n < 0 ∨ lenZ s < n) :
    Calls Tryz.prog 40 #[.agg #[.bool s, .int .u64 hi, .int .u64 lo, .int .i64 n]] w (GivesV (.int .i64 (pfF s hi lo n)) w) := by
  have H := Lib.hid (show pfF s hi lo n = 1 by unfold pfF; rw [if_neg (by simp [hA]), if_pos (show inB n 0 (lenZ s) = false from decide_eq_false (by omega))])
  have HM := fun w' => Lib.hid (mask_range s hi lo n w' hA hn)
  clear hA hn
  go_enter Tryz.func40, Tryz.ntmps40
  go_wp2_with fail
  refine (HM _).out.mono ?_
  rintro e w1 ⟨rfl, hb1⟩
  have hC1 : Below w.heap.size w w1 := ((Below.refl _ _).alloc (Nat.le_refl _) _).trans (hb1.mono (by simp))
  clear hb1
  go_wp2_with fail
  go_ret
  exact ⟨by rw [H.out]; rfl, hC1.alloc hC1.size _⟩

set_option maxHeartbeats 1000000 in
theorem checkPrefix_ok (s : Bool) (hi lo n : Int) (w : World) (h1 : 0 ≤ hi) (h2 : hi < 18446744073709551616) (h3 : 0 ≤ lo) (h4 : lo < 18446744073709551616) (hA : adF s hi lo = 0) (hn1 : 0 ≤ n) (hn2 : n ≤ lenZ s) :
    Calls Tryz.prog 40 #[.agg #[.bool s, .int .u64 hi, .int .u64 lo, .int .i64 n]] w (GivesV (.int .i64 (pfF s hi lo n)) w) := by
  obtain ⟨MH, hMH⟩ : ∃ x : Int, x = ((clr (num hi lo) (lenZ s - n).toNat / 2 ^ 64 : Nat) : Int) := ⟨_, rfl⟩
  obtain ⟨ML, hML⟩ : ∃ x : Int, x = ((clr (num hi lo) (lenZ s - n).toNat % 2 ^ 64 : Nat) : Int) := ⟨_, rfl⟩
  have HM : ∀ w', Hid (Calls Tryz.prog 66 #[.agg #[.bool s, .int .u64 hi, .int .u64 lo], .int .i64 n] w' (GivesV (pfR (.agg #[.bool s, .int .u64 MH, .int .u64 ML, .int .i64 n]) 0) w')) := fun w' => by
    rw [hMH, hML]; exact mask_ok s hi lo n w' h1 h2 h3 h4 hA hn1 hn2
  have hI : inB n 0 (lenZ s) = true := decide_eq_true ⟨hn1, hn2⟩
  have hB := Blk.new w [.bool s, .int .u64 hi, .int .u64 lo, .int .i64 n] 41
  by_cases hC : clr (num hi lo) (lenZ s - n).toNat = num hi lo
  · have H := Lib.hid (show pfF s hi lo n = 0 by unfold pfF; rw [if_neg (by simp [hA]), if_neg (by rw [hI]; decide), if_pos hC])
    obtain ⟨a, b⟩ := mask_same hi lo (lenZ s - n).toNat h1 h3 h4 hC
    obtain rfl : MH = hi := hMH.trans a
    obtain rfl : ML = lo := hML.trans b
    clear hA hC hI h1 h2 h3 h4 hMH hML a b
    go_enter Tryz.func40, Tryz.ntmps40
    go_wp2_with fail
    refine (HM _).out.mono ?_
    rintro e w1 ⟨rfl, hb1⟩
    obtain ⟨u0, u1, u2, u3, _⟩ := (hB.below hb1).four
    have hz1 := hb1.size
    simp at hz1
    have hx1 : w.heap.size < w1.heap.size := by omega
    have hC1 : Below w.heap.size w w1 := ((Below.refl _ _).alloc (Nat.le_refl _) _).trans (hb1.mono (by simp))
    clear hb1 hB
    go_wp2_with fail
    go_ret
    exact ⟨by rw [H.out]; rfl, hC1.alloc hC1.size _⟩
  · have H := Lib.hid (show pfF s hi lo n = 3 by unfold pfF; rw [if_neg (by simp [hA]), if_neg (by rw [hI]; decide), if_neg hC])
    by_cases hE : MH = hi
    · have hne : ¬ ML = lo := by rw [hML]; exact mask_other hi lo _ h4 hC (by rw [← hMH]; exact hE)
      subst hE
      clear hA hC hI h1 h2 h3 h4 hMH hML
      go_enter Tryz.func40, Tryz.ntmps40
      go_wp2_with fail
      refine (HM _).out.mono ?_
      rintro e w1 ⟨rfl, hb1⟩
      obtain ⟨u0, u1, u2, u3, _⟩ := (hB.below hb1).four
      have hz1 := hb1.size
      simp at hz1
      have hx1 : w.heap.size < w1.heap.size := by omega
      have hC1 : Below w.heap.size w w1 := ((Below.refl _ _).alloc (Nat.le_refl _) _).trans (hb1.mono (by simp))
      clear hb1 hB
      go_wp2_with fail
      go_ret
      exact ⟨by rw [H.out]; rfl, hC1.alloc hC1.size _⟩
    · clear hA hC hI h1 h2 h3 h4 hMH hML
      go_enter Tryz.func40, Tryz.ntmps40
      go_wp2_with fail
      refine (HM _).out.mono ?_
      rintro e w1 ⟨rfl, hb1⟩
      obtain ⟨u0, u1, u2, u3, _⟩ := (hB.below hb1).four
      have hz1 := hb1.size
      simp at hz1
      have hx1 : w.heap.size < w1.heap.size := by omega
      have hC1 : Below w.heap.size w w1 := ((Below.refl _ _).alloc (Nat.le_refl _) _).trans (hb1.mono (by simp))
      clear hb1 hB
      go_wp2_with fail
      go_ret
      exact ⟨by rw [H.out]; rfl, hC1.alloc hC1.size _⟩

theorem checkPrefix_any (s : Bool) (hi lo n : Int) (w : World) (h1 : 0 ≤ hi) (h2 : hi < 18446744073709551616) (h3 : 0 ≤ lo) (h4 : lo < 18446744073709551616) :
    Calls Tryz.prog 40 #[.agg #[.bool s, .int .u64 hi, .int .u64 lo, .int .i64 n]] w (GivesV (.int .i64 (pfF s hi lo n)) w) := by
  by_cases hA : adF s hi lo = 0
  · by_cases hn : n < 0 ∨ lenZ s < n
    · exact checkPrefix_range s hi lo n w hA hn
    · exact checkPrefix_ok s hi lo n w h1 h2 h3 h4 hA (by omega) (by omega)
  · exact checkPrefix_fault s hi lo n w hA

def firstZ : List Int → Int
  | [] => 0
  | e :: r => if e = 0 then firstZ r else e

end Go.Proofs.YtfbggfpihiegpaaGreatDoor
