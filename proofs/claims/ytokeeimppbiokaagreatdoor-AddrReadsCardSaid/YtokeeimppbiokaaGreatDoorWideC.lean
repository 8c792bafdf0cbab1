/- Wide numbers: addr, MaskOf, PrefixFault. -/
import Derived.Test.YtokeeimppbiokaaGreatDoorWideB
namespace Go.Proofs.YtokeeimppbiokaaGreatDoor
open Go.RowKit

/-- Four digits of 2^16 put together. -/
theorem or4 (a b c d : Nat) (ha : a < 65536) (hb : b < 65536) (hc : c < 65536) (hd : d < 65536) :
    bits .or .u64 (bits .or .u64 (bits .or .u64 (bits .or .u64 0 (a : Int)) ((b : Int) * 65536)) ((c : Int) * 4294967296)) ((d : Int) * 281474976710656) = ((a + b * 65536 + c * 4294967296 + d * 281474976710656 : Nat) : Int) := by
  have e0 : bits .or .u64 0 (a : Int) = ((a : Nat) : Int) := by
    have := u64_or_nat 0 a (by omega) (by omega)
    simpa using this
  have e1 : bits .or .u64 (a : Int) ((b : Int) * 65536) = ((a + b * 65536 : Nat) : Int) := by
    have := u64_or_nat a (b * 65536) (by omega) (by omega)
    rw [show ((b : Int) * 65536) = ((b * 65536 : Nat) : Int) by simp, this, Nat.or_comm, nat_join 16 (b * 65536) a (by omega) (by omega), Nat.add_comm]
  have e2 : bits .or .u64 ((a + b * 65536 : Nat) : Int) ((c : Int) * 4294967296) = ((a + b * 65536 + c * 4294967296 : Nat) : Int) := by
    have := u64_or_nat (a + b * 65536) (c * 4294967296) (by omega) (by omega)
    rw [show ((c : Int) * 4294967296) = ((c * 4294967296 : Nat) : Int) by simp, this, Nat.or_comm, nat_join 32 (c * 4294967296) _ (by omega) (by omega), Nat.add_comm]
  have e3 : bits .or .u64 ((a + b * 65536 + c * 4294967296 : Nat) : Int) ((d : Int) * 281474976710656) = ((a + b * 65536 + c * 4294967296 + d * 281474976710656 : Nat) : Int) := by
    have := u64_or_nat (a + b * 65536 + c * 4294967296) (d * 281474976710656) (by omega) (by omega)
    rw [show ((d : Int) * 281474976710656) = ((d * 281474976710656 : Nat) : Int) by simp, this, Nat.or_comm, nat_join 48 (d * 281474976710656) _ (by omega) (by omega), Nat.add_comm]
  rw [e0, e1, e2, e3]

theorem dig_sum_low (V : Nat) : dig V 0 + dig V 1 * 65536 + dig V 2 * 4294967296 + dig V 3 * 281474976710656 = V % 2 ^ 64 := by
  unfold dig; omega
theorem dig_sum_high (V : Nat) (h : V < 2 ^ 128) : dig V 4 + dig V 5 * 65536 + dig V 6 * 4294967296 + dig V 7 * 281474976710656 = V / 2 ^ 64 := by
  unfold dig; omega

theorem waddr_eq (V : Nat) (s : Bool) (h : V < 2 ^ 128) :
    Value.agg #[.bool (decide (0 < b2i s)), .int .u64 (bits .or .u64 (bits .or .u64 (bits .or .u64 (bits .or .u64 0 (dig V 4 : Int)) ((dig V 5 : Int) * 65536)) ((dig V 6 : Int) * 4294967296)) ((dig V 7 : Int) * 281474976710656)),
      .int .u64 (bits .or .u64 (bits .or .u64 (bits .or .u64 (bits .or .u64 0 (dig V 0 : Int)) ((dig V 1 : Int) * 65536)) ((dig V 2 : Int) * 4294967296)) ((dig V 3 : Int) * 281474976710656))] =
    Value.agg #[.bool s, .int .u64 ((V / 2 ^ 64 : Nat) : Int), .int .u64 ((V % 2 ^ 64 : Nat) : Int)] := by
  rw [or4 _ _ _ _ (dig_lt V 4) (dig_lt V 5) (dig_lt V 6) (dig_lt V 7), or4 _ _ _ _ (dig_lt V 0) (dig_lt V 1) (dig_lt V 2) (dig_lt V 3), dig_sum_low, dig_sum_high V h, b2i_pos]

set_option maxHeartbeats 2000000 in
theorem waddr_any (V : Nat) (s : Bool) (w : World) (hV : V < 2 ^ 128) :
    Calls Tryz.prog 82 #[wV V s] w (GivesV (.agg #[.bool s, .int .u64 ((V / 2 ^ 64 : Nat) : Int), .int .u64 ((V % 2 ^ 64 : Nat) : Int)]) w) := by
  have H := Lib.hid (waddr_eq V s hV)
  clear hV
  have l0 := dig_lt V 0
  have l1 := dig_lt V 1
  have l2 := dig_lt V 2
  have l3 := dig_lt V 3
  have l4 := dig_lt V 4
  have l5 := dig_lt V 5
  have l6 := dig_lt V 6
  have l7 := dig_lt V 7
  go_enter Tryz.func82, Tryz.ntmps82
  go_wp2_with fail
  refine wp_loop_rounds 5 ?_
  iterate 4
    rw [rounds_succ]
    go_wp2_with fail
    go_region
    go_wp2_with fail
    go_region
    go_wp2_with fail
  rw [rounds_succ]
  go_wp2_with fail
  refine bodyPost_ret ?_ rfl ⟨congrArg Ending.returned H.out, ?_⟩
  · simp [results, Tryz.results82, go_sem]
  · iterate 8 (refine Below.drew ?_)
    exact (((Below.refl _ _).alloc (Nat.le_refl _) _).alloc (by simp) _).alloc (by simp; omega) _

/-- The prefix that MaskOf gives: the low bits are cleared. -/
abbrev maskV (s : Bool) (hi lo n : Int) : Value := .agg #[.bool s, .int .u64 ((clr (num hi lo) (lenZ s - n).toNat / 2 ^ 64 : Nat) : Int), .int .u64 ((clr (num hi lo) (lenZ s - n).toNat % 2 ^ 64 : Nat) : Int), .int .i64 n]

set_option maxHeartbeats 1000000 in
theorem maskOf_any (s : Bool) (hi lo n : Int) (w : World) (h1 : 0 ≤ hi) (h2 : hi < 18446744073709551616) (h3 : 0 ≤ lo) (h4 : lo < 18446744073709551616) (hn1 : 0 ≤ n) (hn2 : n ≤ lenZ s) :
    Calls Tryz.prog 61 #[.agg #[.bool s, .int .u64 hi, .int .u64 lo], .int .i64 n] w (GivesV (maskV s hi lo n) w) := by
  have hB := Blk.new (w.alloc (.cells #[.bool s, .int .u64 hi, .int .u64 lo] 29)) [.bool false, .int .u64 0, .int .u64 0, .int .i64 0] 36
  simp at hB
  go_enter Tryz.func61, Tryz.ntmps61
  go_wp2_with fail
  refine (firstOf_any _ _ _ _ _ h1 h2 h3 h4 hn1 hn2).mono ?_
  rintro e w1 ⟨rfl, hb1⟩
  have hB1 := hB.below hb1
  have hz1 := hb1.size
  simp at hz1
  have hC1 : Below w.heap.size w w1 := (((Below.refl _ _).alloc (Nat.le_refl _) _).alloc (by simp) _).trans (hb1.mono (by simp; omega))
  clear hb1 hB
  go_wp2_with fail
  refine (waddr_any _ _ _ (clr_lt (num_lt h2 h4))).mono ?_
  rintro e w2 ⟨rfl, hb2⟩
  obtain ⟨u0, u1, u2, u3, f0, f1, f2, f3⟩ := (hB1.below hb2).four
  have hC2 := hC1.trans (hb2.mono (by omega))
  clear hb2 hB1 hC1
  go_wp2_with fail
  refine bodyPost_ret (v := maskV s hi lo n) ?_ rfl ⟨rfl, ?_⟩
  · simp [results, Tryz.results61, go_sem, u0, u1, u2, u3]
  · exact (((hC2.setCell (p := ⟨w.heap.size + 1, 0, none⟩) (by simp) _).setCell (p := ⟨w.heap.size + 1, 1, none⟩) (by simp) _).setCell (p := ⟨w.heap.size + 1, 2, none⟩) (by simp) _).setCell (p := ⟨w.heap.size + 1, 3, none⟩) (by simp) _
end Go.Proofs.YtokeeimppbiokaaGreatDoor
