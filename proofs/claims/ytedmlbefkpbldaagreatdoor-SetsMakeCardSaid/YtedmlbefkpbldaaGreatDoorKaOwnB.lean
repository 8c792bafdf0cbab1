/- The program's own masks: span.Mask, Mask, CheckPrefix. -/
import Derived.Test.YtedmlbefkpbldaaGreatDoorKaWideB
import Derived.Test.YtedmlbefkpbldaaGreatDoorKaAddressed
namespace Go.Proofs.YtedmlbefkpbldaaGreatDoor
open Go.RowKit

/-- Four digits of 2^16 put together. -/
theorem or4 (a b c d : Nat) (ha : a < 65536) (hb : b < 65536) (hc : c < 65536) (hd : d < 65536) :
    bits .or .u64 (bits .or .u64 (bits .or .u64 (bits .or .u64 0 (a : Int)) ((b : Int) * 65536)) ((c : Int) * 4294967296)) ((d : Int) * 281474976710656) = ((a + b * 65536 + c * 4294967296 + d * 281474976710656 : Nat) : Int) := by
  have e0 : bits .or .u64 0 (a : Int) = ((a : Nat) : Int) := by
    have := u64_or_nat 0 a (by omega) (by omega)
    simpa using this
  have e1 : bits .or .u64 (a : Int) ((b : Int) * 65536) = ((a + b * 65536 : Nat) : Int) := by
    have := u64_or_nat a (b * 65536) (by omega) (by omega)
    rw [show ((b : Int) * 65536) = ((b * 65536 : Nat) : Int) by simp, this, Nat.or_comm, nat_join 16 (b * 65536) a (by omega) (by omega), Nat.add_comm]
  have e2 : bits .or .u64 ((a + b * 65536 : Nat) : Int) ((c : Int) * 4294967296) = ((a + b * 65536 + c * 4294967296 : Nat) : Int) := by
    have := u64_or_nat (a + b * 65536) (c * 4294967296) (by omega) (by omega)
    rw [show ((c : Int) * 4294967296) = ((c * 4294967296 : Nat) : Int) by simp, this, Nat.or_comm, nat_join 32 (c * 4294967296) _ (by omega) (by omega), Nat.add_comm]
  have e3 : bits .or .u64 ((a + b * 65536 + c * 4294967296 : Nat) : Int) ((d : Int) * 281474976710656) = ((a + b * 65536 + c * 4294967296 + d * 281474976710656 : Nat) : Int) := by
    have := u64_or_nat (a + b * 65536 + c * 4294967296) (d * 281474976710656) (by omega) (by omega)
    rw [show ((d : Int) * 281474976710656) = ((d * 281474976710656 : Nat) : Int) by simp, this, Nat.or_comm, nat_join 48 (d * 281474976710656) _ (by omega) (by omega), Nat.add_comm]
  rw [e0, e1, e2, e3]

theorem dig_sum_low (V : Nat) : dig V 0 + dig V 1 * 65536 + dig V 2 * 4294967296 + dig V 3 * 281474976710656 = V % 2 ^ 64 := by
  unfold dig; omega
theorem dig_sum_high (V : Nat) (h : V < 2 ^ 128) : dig V 4 + dig V 5 * 65536 + dig V 6 * 4294967296 + dig V 7 * 281474976710656 = V / 2 ^ 64 := by
  unfold dig; omega

theorem waddr_eq (V : Nat) (s : Bool) (h : V < 2 ^ 128) :
    Value.agg #[.bool (decide (0 < b2i s)), .int .u64 (bits .or .u64 (bits .or .u64 (bits .or .u64 (bits .or .u64 0 (dig V 4 : Int)) ((dig V 5 : Int) * 65536)) ((dig V 6 : Int) * 4294967296)) ((dig V 7 : Int) * 281474976710656)),
      .int .u64 (bits .or .u64 (bits .or .u64 (bits .or .u64 (bits .or .u64 0 (dig V 0 : Int)) ((dig V 1 : Int) * 65536)) ((dig V 2 : Int) * 4294967296)) ((dig V 3 : Int) * 281474976710656))] =
    Value.agg #[.bool s, .int .u64 ((V / 2 ^ 64 : Nat) : Int), .int .u64 ((V % 2 ^ 64 : Nat) : Int)] := by
  rw [or4 _ _ _ _ (dig_lt V 4) (dig_lt V 5) (dig_lt V 6) (dig_lt V 7), or4 _ _ _ _ (dig_lt V 0) (dig_lt V 1) (dig_lt V 2) (dig_lt V 3), dig_sum_low, dig_sum_high V h, b2i_pos]

set_option maxHeartbeats 2000000 in
theorem waddr_any (V : Nat) (s : Bool) (w : World) (hV : V < 2 ^ 128) :
    Calls Tryz.prog 79 #[wV V s] w (GivesV (.agg #[.bool s, .int .u64 ((V / 2 ^ 64 : Nat) : Int), .int .u64 ((V % 2 ^ 64 : Nat) : Int)]) w) := by
  have H := Lib.hid (waddr_eq V s hV)
  clear hV
  have l0 := dig_lt V 0
  have l1 := dig_lt V 1
  have l2 := dig_lt V 2
  have l3 := dig_lt V 3
  have l4 := dig_lt V 4
  have l5 := dig_lt V 5
  have l6 := dig_lt V 6
  have l7 := dig_lt V 7
  go_enter Tryz.func79, Tryz.ntmps79
  go_wp2_with fail
  refine wp_loop_rounds 5 ?_
  iterate 4
    rw [rounds_succ]
    go_wp2_with fail
    go_region
    go_wp2_with fail
    go_region
    go_wp2_with fail
  rw [rounds_succ]
  go_wp2_with fail
  refine bodyPost_ret ?_ rfl ⟨congrArg Ending.returned H.out, ?_⟩
  · simp [results, Tryz.results79, go_sem]
  · iterate 8 (refine Below.drew ?_)
    exact (((Below.refl _ _).alloc (Nat.le_refl _) _).alloc (by simp) _).alloc (by simp; omega) _

/-- The prefix that MaskOf gives: the low bits are cleared. -/
abbrev maskV (s : Bool) (hi lo n : Int) : Value := .agg #[.bool s, .int .u64 ((clr (num hi lo) (lenZ s - n).toNat / 2 ^ 64 : Nat) : Int), .int .u64 ((clr (num hi lo) (lenZ s - n).toNat % 2 ^ 64 : Nat) : Int), .int .i64 n]

set_option maxHeartbeats 1000000 in
theorem maskOf_any (s : Bool) (hi lo n : Int) (w : World) (h1 : 0 ≤ hi) (h2 : hi < 18446744073709551616) (h3 : 0 ≤ lo) (h4 : lo < 18446744073709551616) (hn1 : 0 ≤ n) (hn2 : n ≤ lenZ s) :
    Calls Tryz.prog 120 #[.agg #[.bool s, .int .u64 hi, .int .u64 lo], .int .i64 n] w (GivesV (maskV s hi lo n) w) := by
  have hB := Blk.new (w.alloc (.cells #[.bool s, .int .u64 hi, .int .u64 lo] 28)) [.bool false, .int .u64 0, .int .u64 0, .int .i64 0] 52
  simp at hB
  go_enter Tryz.func120, Tryz.ntmps120
  go_wp2_with fail
  refine (firstOf_any _ _ _ _ _ h1 h2 h3 h4 hn1 hn2).mono ?_
  rintro e w1 ⟨rfl, hb1⟩
  have hB1 := hB.below hb1
  have hz1 := hb1.size
  simp at hz1
  have hC1 : Below w.heap.size w w1 := (((Below.refl _ _).alloc (Nat.le_refl _) _).alloc (by simp) _).trans (hb1.mono (by simp; omega))
  clear hb1 hB
  go_wp2_with fail
  refine (waddr_any _ _ _ (clr_lt (num_lt h2 h4))).mono ?_
  rintro e w2 ⟨rfl, hb2⟩
  obtain ⟨u0, u1, u2, u3, f0, f1, f2, f3⟩ := (hB1.below hb2).four
  have hC2 := hC1.trans (hb2.mono (by omega))
  clear hb2 hB1 hC1
  go_wp2_with fail
  refine bodyPost_ret (v := maskV s hi lo n) ?_ rfl ⟨rfl, ?_⟩
  · simp [results, Tryz.results120, go_sem, u0, u1, u2, u3]
  · exact (((hC2.setCell (p := ⟨w.heap.size + 1, 0, none⟩) (by simp) _).setCell (p := ⟨w.heap.size + 1, 1, none⟩) (by simp) _).setCell (p := ⟨w.heap.size + 1, 2, none⟩) (by simp) _).setCell (p := ⟨w.heap.size + 1, 3, none⟩) (by simp) _
end Go.Proofs.YtedmlbefkpbldaaGreatDoor
namespace Go.Proofs.YtedmlbefkpbldaaGreatDoor
open Go.RowKit

theorem belowN {B m : Nat} {a w : World} (h : Below B a w) : Below B a (w.drewN m) := ⟨h.os, h.tape, h.output, h.size, h.block⟩
theorem below_four {B p : Nat} {w W : World} (h : Below B w W) (hp : B ≤ p) (x0 x1 x2 x3 : Value) : Below B w ((((W.setCell ⟨p, 0, none⟩ x0).setCell ⟨p, 1, none⟩ x1).setCell ⟨p, 2, none⟩ x2).setCell ⟨p, 3, none⟩ x3) :=
  (Below.setCell (p := ⟨p, 3, none⟩) (Below.setCell (p := ⟨p, 2, none⟩) (Below.setCell (p := ⟨p, 1, none⟩) (Below.setCell (p := ⟨p, 0, none⟩) h hp x0) hp x1) hp x2) hp x3)

set_option maxHeartbeats 1000000 in
theorem spanMask_any (s : Bool) (hi lo n : Int) (w : World) (h1 : 0 ≤ hi) (h2 : hi < 18446744073709551616) (h3 : 0 ≤ lo) (h4 : lo < 18446744073709551616) (hn1 : 0 ≤ n) (hn2 : n ≤ lenZ s) :
    Calls Tryz.prog 128 #[.agg #[.bool s, .int .u64 hi, .int .u64 lo], .int .i64 n] w (GivesV (maskV s hi lo n) w) := by
  have hl : lenZ s ≤ 128 := by cases s <;> decide
  obtain ⟨N, hN⟩ := Int.eq_ofNat_of_zero_le (show 0 ≤ lenZ s - n by omega)
  have hN' : N ≤ 128 := by omega
  obtain ⟨e1, e2⟩ := clr_halves hi lo N hN' h1 h2 h3 h4
  have HE := Lib.hid (show (Value.agg #[.bool s, .int .u64 (bits .andNot .u64 hi (onesH N : Int)), .int .u64 (bits .andNot .u64 lo (onesL N : Int)), .int .i64 n]) = maskV s hi lo n by rw [e1, e2]; unfold maskV; rw [hN, Int.toNat_natCast])
  clear e1 e2
  have hA := (Blk.new w [.bool s, .int .u64 hi, .int .u64 lo] 28).alloc (.cells #[.bool false, .int .u64 0, .int .u64 0, .int .i64 0] 52)
  have hB := Blk.new (w.alloc (.cells #[.bool s, .int .u64 hi, .int .u64 lo] 28)) [.bool false, .int .u64 0, .int .u64 0, .int .i64 0] 52
  simp at hB
  have hN2 := Lib.hid hN
  clear hN
  go_enter Tryz.func128, Tryz.ntmps128
  go_wp2_with fail
  refine (spanLength_any _ _).mono ?_
  rintro e w1 ⟨rfl, rfl⟩
  go_wp2_with fail
  rw [hN2.out]
  refine (ones_any _ hN' _).mono ?_
  rintro e w1 ⟨rfl, m, rfl⟩
  go_wp2_with fail
  refine bodyPost_ret ?_ rfl ⟨congrArg Ending.returned HE.out, ?_⟩
  · simp [results, Tryz.results128, go_sem]
  · exact below_four (belowN (((Below.refl _ _).alloc (Nat.le_refl _) _).alloc (by simp) _)) (by simp) _ _ _ _

/-- The prefix of no bits at nothing. -/
abbrev zeroP : Value := .agg #[.bool false, .int .u64 0, .int .u64 0, .int .i64 0]
/-- Two results: a prefix and an error. -/
abbrev pfR (p : Value) (e : Int) : Value := .tuple #[p, .int .i64 e]

set_option maxHeartbeats 1000000 in
theorem mask_fault (s : Bool) (hi lo n : Int) (w : World) (hA : adF s hi lo ≠ 0) :
    Calls Tryz.prog 122 #[.agg #[.bool s, .int .u64 hi, .int .u64 lo], .int .i64 n] w (GivesV (pfR zeroP (adF s hi lo)) w) := by
  have hB := Blk.new (w.alloc (.cells #[.bool s, .int .u64 hi, .int .u64 lo] 28)) [.bool false, .int .u64 0, .int .u64 0, .int .i64 0] 52
  simp at hB
  have H1 : (adF s hi lo != 0) = true := by simp [hA]
  clear hA
  go_enter Tryz.func122, Tryz.ntmps122
  go_wp2_with fail
  refine (checkAddr_any _ _ _ _).mono ?_
  rintro e w1 ⟨rfl, hb1⟩
  obtain ⟨u0, u1, u2, u3, f0, f1, f2, f3⟩ := (hB.below hb1).four
  have hC1 : Below w.heap.size w w1 := (((Below.refl _ _).alloc (Nat.le_refl _) _).alloc (by simp) _).trans (hb1.mono (by simp; omega))
  clear hb1 hB
  go_wp2_with fail
  refine bodyPost_ret (v := pfR zeroP (adF s hi lo)) ?_ rfl ⟨rfl, ?_⟩
  · simp [results, Tryz.results122, go_sem, u0, u1, u2, u3]
  · exact below_four hC1 (by simp) _ _ _ _

set_option maxHeartbeats 1000000 in
theorem mask_range (s : Bool) (hi lo n : Int) (w : World) (hA : adF s hi lo = 0) (hn : n < 0 ∨ lenZ s < n) :
    Calls Tryz.prog 122 #[.agg #[.bool s, .int .u64 hi, .int .u64 lo], .int .i64 n] w (GivesV (pfR zeroP 1) w) := by
  have hD := (Blk.new w [.bool s, .int .u64 hi, .int .u64 lo] 28).alloc (.cells #[.bool false, .int .u64 0, .int .u64 0, .int .i64 0] 52)
  have hB := Blk.new (w.alloc (.cells #[.bool s, .int .u64 hi, .int .u64 lo] 28)) [.bool false, .int .u64 0, .int .u64 0, .int .i64 0] 52
  simp at hB
  have H1 : (adF s hi lo != 0) = false := by simp [hA]
  have HA := Lib.hid hA
  clear hA
  rcases hn with hn | hn
  · go_enter Tryz.func122, Tryz.ntmps122
    go_wp2_with fail
    refine (checkAddr_any _ _ _ _).mono ?_
    rintro e w1 ⟨rfl, hb1⟩
    obtain ⟨u0, u1, u2, u3, f0, f1, f2, f3⟩ := (hB.below hb1).four
    have hC1 : Below w.heap.size w w1 := (((Below.refl _ _).alloc (Nat.le_refl _) _).alloc (by simp) _).trans (hb1.mono (by simp; omega))
    clear hb1 hB
    go_wp2_with fail
    refine bodyPost_ret (v := pfR zeroP 1) ?_ rfl ⟨rfl, ?_⟩
    · simp [results, Tryz.results122, go_sem, u0, u1, u2, u3]
    · exact below_four hC1 (by simp) _ _ _ _
  · have hn' : ¬ n < 0 := by cases s <;> simp [lenZ] at hn <;> omega
    go_enter Tryz.func122, Tryz.ntmps122
    go_wp2_with fail
    refine (checkAddr_any _ _ _ _).mono ?_
    rintro e w1 ⟨rfl, hb1⟩
    obtain ⟨u0, u1, u2, u3, f0, f1, f2, f3⟩ := (hB.below hb1).four
    obtain ⟨a0, a1, a2, _⟩ := (hD.below hb1).three
    have hC1 : Below w.heap.size w w1 := (((Below.refl _ _).alloc (Nat.le_refl _) _).alloc (by simp) _).trans (hb1.mono (by simp; omega))
    clear hb1 hB hD
    go_wp2_with fail
    refine (spanLength_any _ _).mono ?_
    rintro e w2 ⟨rfl, rfl⟩
    go_wp2_with fail
    refine bodyPost_ret (v := pfR zeroP 1) ?_ rfl ⟨rfl, ?_⟩
    · simp [results, Tryz.results122, go_sem, u0, u1, u2, u3]
    · exact below_four hC1 (by simp) _ _ _ _

set_option maxHeartbeats 1000000 in
theorem mask_ok (s : Bool) (hi lo n : Int) (w : World) (h1 : 0 ≤ hi) (h2 : hi < 18446744073709551616) (h3 : 0 ≤ lo) (h4 : lo < 18446744073709551616) (hA : adF s hi lo = 0) (hn1 : 0 ≤ n) (hn2 : n ≤ lenZ s) :
    Calls Tryz.prog 122 #[.agg #[.bool s, .int .u64 hi, .int .u64 lo], .int .i64 n] w (GivesV (pfR (maskV s hi lo n) 0) w) := by
  have hD := (Blk.new w [.bool s, .int .u64 hi, .int .u64 lo] 28).alloc (.cells #[.bool false, .int .u64 0, .int .u64 0, .int .i64 0] 52)
  have hB := Blk.new (w.alloc (.cells #[.bool s, .int .u64 hi, .int .u64 lo] 28)) [.bool false, .int .u64 0, .int .u64 0, .int .i64 0] 52
  simp at hB
  have H1 : (adF s hi lo != 0) = false := by simp [hA]
  have HA := Lib.hid hA
  clear hA
  have hn' : ¬ n < 0 := by omega
  have hn'' : ¬ lenZ s < n := by omega
  go_enter Tryz.func122, Tryz.ntmps122
  go_wp2_with fail
  refine (checkAddr_any _ _ _ _).mono ?_
  rintro e w1 ⟨rfl, hb1⟩
  have hB1 := hB.below hb1
  obtain ⟨a0, a1, a2, _⟩ := (hD.below hb1).three
  have hC1 : Below w.heap.size w w1 := (((Below.refl _ _).alloc (Nat.le_refl _) _).alloc (by simp) _).trans (hb1.mono (by simp; omega))
  clear hb1 hB hD
  go_wp2_with fail
  refine (spanLength_any _ _).mono ?_
  rintro e w2 ⟨rfl, rfl⟩
  go_wp2_with fail
  refine (spanMask_any _ _ _ _ _ h1 h2 h3 h4 hn1 hn2).mono ?_
  rintro e w2 ⟨rfl, hb2⟩
  obtain ⟨u0, u1, u2, u3, f0, f1, f2, f3⟩ := (hB1.below hb2).four
  have hC2 := hC1.trans (hb2.mono hC1.size)
  clear hb2 hB1 hC1
  go_wp2_with fail
  refine bodyPost_ret (v := pfR (maskV s hi lo n) 0) ?_ rfl ⟨rfl, ?_⟩
  · simp [results, Tryz.results122, go_sem, u0, u1, u2, u3]
  · exact below_four hC2 (by simp) _ _ _ _
end Go.Proofs.YtedmlbefkpbldaaGreatDoor
