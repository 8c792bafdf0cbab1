/- Sites: Via, ViaOf, Site, SiteOf; errs, when. -/
import Derived.Test.YtilgjgdppfnefaaGreatDoorKhOwnA
import Derived.Deep.RegionHeld3
import Derived.Deep.DeepCutAuto
namespace Go.Proofs.YtilgjgdppfnefaaGreatDoor
open Go.RowKit

/-- Four digits of 2^16 put together. -/
theorem or4 (a b c d : Nat) (ha : a < 65536) (hb : b < 65536) (hc : c < 65536) (hd : d < 65536) :
    bits .or .u64 (bits .or .u64 (bits .or .u64 (bits .or .u64 0 (a : Int)) ((b : Int) * 65536)) ((c : Int) * 4294967296)) ((d : Int) * 281474976710656) = ((a + b * 65536 + c * 4294967296 + d * 281474976710656 : Nat) : Int) := by
  have e0 : bits .or .u64 0 (a : Int) = ((a : Nat) : Int) := by
    have := u64_or_nat 0 a (by omega) (by omega)
    simpa using this
  have e1 : bits .or .u64 (a : Int) ((b : Int) * 65536) = ((a + b * 65536 : Nat) : Int) := by
    have := u64_or_nat a (b * 65536) (by omega) (by omega)
    rw [show ((b : Int) * 65536) = ((b * 65536 : Nat) : Int) by simp, this, Nat.or_comm, nat_join 16 (b * 65536) a (by omega) (by omega), Nat.add_comm]
  have e2 : bits .or .u64 ((a + b * 65536 : Nat) : Int) ((c : Int) * 4294967296) = ((a + b * 65536 + c * 4294967296 : Nat) : Int) := by
    have := u64_or_nat (a + b * 65536) (c * 4294967296) (by omega) (by omega)
    rw [show ((c : Int) * 4294967296) = ((c * 4294967296 : Nat) : Int) by simp, this, Nat.or_comm, nat_join 32 (c * 4294967296) _ (by omega) (by omega), Nat.add_comm]
  have e3 : bits .or .u64 ((a + b * 65536 + c * 4294967296 : Nat) : Int) ((d : Int) * 281474976710656) = ((a + b * 65536 + c * 4294967296 + d * 281474976710656 : Nat) : Int) := by
    have := u64_or_nat (a + b * 65536 + c * 4294967296) (d * 281474976710656) (by omega) (by omega)
    rw [show ((d : Int) * 281474976710656) = ((d * 281474976710656 : Nat) : Int) by simp, this, Nat.or_comm, nat_join 48 (d * 281474976710656) _ (by omega) (by omega), Nat.add_comm]
  rw [e0, e1, e2, e3]

theorem dig_sum_low (V : Nat) : dig V 0 + dig V 1 * 65536 + dig V 2 * 4294967296 + dig V 3 * 281474976710656 = V % 2 ^ 64 := by
  unfold dig; omega
theorem dig_sum_high (V : Nat) (h : V < 2 ^ 128) : dig V 4 + dig V 5 * 65536 + dig V 6 * 4294967296 + dig V 7 * 281474976710656 = V / 2 ^ 64 := by
  unfold dig; omega

theorem waddr_eq (V : Nat) (s : Bool) (h : V < 2 ^ 128) :
    Value.agg #[.bool (decide (0 < b2i s)), .int .u64 (bits .or .u64 (bits .or .u64 (bits .or .u64 (bits .or .u64 0 (dig V 4 : Int)) ((dig V 5 : Int) * 65536)) ((dig V 6 : Int) * 4294967296)) ((dig V 7 : Int) * 281474976710656)),
      .int .u64 (bits .or .u64 (bits .or .u64 (bits .or .u64 (bits .or .u64 0 (dig V 0 : Int)) ((dig V 1 : Int) * 65536)) ((dig V 2 : Int) * 4294967296)) ((dig V 3 : Int) * 281474976710656))] =
    Value.agg #[.bool s, .int .u64 ((V / 2 ^ 64 : Nat) : Int), .int .u64 ((V % 2 ^ 64 : Nat) : Int)] := by
  rw [or4 _ _ _ _ (dig_lt V 4) (dig_lt V 5) (dig_lt V 6) (dig_lt V 7), or4 _ _ _ _ (dig_lt V 0) (dig_lt V 1) (dig_lt V 2) (dig_lt V 3), dig_sum_low, dig_sum_high V h, b2i_pos]

set_option maxHeartbeats 2000000 in
theorem waddr_any (V : Nat) (s : Bool) (w : World) (hV : V < 2 ^ 128) :
    Calls Tryz.prog 79 #[wV V s] w (GivesV (.agg #[.bool s, .int .u64 ((V / 2 ^ 64 : Nat) : Int), .int .u64 ((V % 2 ^ 64 : Nat) : Int)]) w) := by
  have H := Lib.hid (waddr_eq V s hV)
  clear hV
  have l0 := dig_lt V 0
  have l1 := dig_lt V 1
  have l2 := dig_lt V 2
  have l3 := dig_lt V 3
  have l4 := dig_lt V 4
  have l5 := dig_lt V 5
  have l6 := dig_lt V 6
  have l7 := dig_lt V 7
  go_enter Tryz.func79, Tryz.ntmps79
  go_wp2_with fail
  refine wp_loop_rounds 5 ?_
  iterate 4
    rw [rounds_succ]
    go_wp2_with fail
    go_region
    go_wp2_with fail
    go_region
    go_wp2_with fail
  rw [rounds_succ]
  go_wp2_with fail
  refine bodyPost_ret ?_ rfl ⟨congrArg Ending.returned H.out, ?_⟩
  · simp [results, Tryz.results79, go_sem]
  · iterate 8 (refine Below.drew ?_)
    exact (((Below.refl _ _).alloc (Nat.le_refl _) _).alloc (by simp) _).alloc (by simp; omega) _

/-- The prefix that MaskOf gives: the low bits are cleared. -/
abbrev maskV (s : Bool) (hi lo n : Int) : Value := .agg #[.bool s, .int .u64 ((clr (num hi lo) (lenZ s - n).toNat / 2 ^ 64 : Nat) : Int), .int .u64 ((clr (num hi lo) (lenZ s - n).toNat % 2 ^ 64 : Nat) : Int), .int .i64 n]

set_option maxHeartbeats 1000000 in
theorem maskOf_any (s : Bool) (hi lo n : Int) (w : World) (h1 : 0 ≤ hi) (h2 : hi < 18446744073709551616) (h3 : 0 ≤ lo) (h4 : lo < 18446744073709551616) (hn1 : 0 ≤ n) (hn2 : n ≤ lenZ s) :
    Calls Tryz.prog 51 #[.agg #[.bool s, .int .u64 hi, .int .u64 lo], .int .i64 n] w (GivesV (maskV s hi lo n) w) := by
  have hB := Blk.new (w.alloc (.cells #[.bool s, .int .u64 hi, .int .u64 lo] 33)) [.bool false, .int .u64 0, .int .u64 0, .int .i64 0] 78
  simp at hB
  go_enter Tryz.func51, Tryz.ntmps51
  go_wp2_with fail
  refine (firstOf_any _ _ _ _ _ h1 h2 h3 h4 hn1 hn2).mono ?_
  rintro e w1 ⟨rfl, hb1⟩
  have hB1 := hB.below hb1
  have hz1 := hb1.size
  simp at hz1
  have hC1 : Below w.heap.size w w1 := (((Below.refl _ _).alloc (Nat.le_refl _) _).alloc (by simp) _).trans (hb1.mono (by simp; omega))
  clear hb1 hB
  go_wp2_with fail
  refine (waddr_any _ _ _ (clr_lt (num_lt h2 h4))).mono ?_
  rintro e w2 ⟨rfl, hb2⟩
  obtain ⟨u0, u1, u2, u3, f0, f1, f2, f3⟩ := (hB1.below hb2).four
  have hC2 := hC1.trans (hb2.mono (by omega))
  clear hb2 hB1 hC1
  go_wp2_with fail
  refine bodyPost_ret (v := maskV s hi lo n) ?_ rfl ⟨rfl, ?_⟩
  · simp [results, Tryz.results51, go_sem, u0, u1, u2, u3]
  · exact (((hC2.setCell (p := ⟨w.heap.size + 1, 0, none⟩) (by simp) _).setCell (p := ⟨w.heap.size + 1, 1, none⟩) (by simp) _).setCell (p := ⟨w.heap.size + 1, 2, none⟩) (by simp) _).setCell (p := ⟨w.heap.size + 1, 3, none⟩) (by simp) _
end Go.Proofs.YtilgjgdppfnefaaGreatDoor
namespace Go.Proofs.YtilgjgdppfnefaaGreatDoor
open Go.RowKit

/-- Two wide numbers are equal. -/
def wideEq (A B : Nat) (s t : Bool) : Bool := dig A 0 == dig B 0 && (dig A 1 == dig B 1 && (dig A 2 == dig B 2 && (dig A 3 == dig B 3 && (dig A 4 == dig B 4 && (dig A 5 == dig B 5 && (dig A 6 == dig B 6 && (dig A 7 == dig B 7 && b2i s == b2i t)))))))

set_option maxHeartbeats 1000000 in
@[go_sem] theorem wide_equalIn (A B : Nat) (s t : Bool) (w : World) : (Op.equalIn 10000 100 (wV A s) (wV B t)).run Tryz.prog w = .ok (wideEq A B s t) w := by
  have u3 := Tryz.underlying3
  have a3 := Tryz.isAgg3
  have z3 := Tryz.sizeOf3
  have ei : ∀ a b : Nat, ((a : Int) = (b : Int)) = (a = b) := fun a b => propext Int.ofNat_inj
  rw [show (10000 : Nat) = 9999 + 1 from rfl, Op.equalIn]
  simp only [Sem.run_bind, run_underlying Tryz.underlying100, Result.andThen_ok]
  simp only [Std.Legacy.Range.forIn_eq_forIn_range', Std.Legacy.Range.size, Nat.sub_zero, Nat.add_sub_cancel, Nat.div_one, List.range'_succ, List.range'_zero, List.forIn_cons, List.forIn_nil]
  go_simp
  unfold wideEq
  (repeat' split) <;> simp_all

/-- The test '!=' of two wide numbers, as one step. -/
def neqW (x y : Operand) (a b : Value) : Sem Next := do
  let v ← (do eqGuard .neq 100 x y a b; binOp .neq 100 a b)
  pure (.value v)
@[go_sem ↓ high] theorem execOp_neqW (ρ : Operand → Value) (dst : Option Tmp) (x y : Operand) (r ty : TypeId) (pos : String) (after : Array Edge) (guard : Option (Nat × Bool)) :
    execOp ρ ⟨dst, .binOp .neq 100 x y r, ty, pos, after, guard⟩ = neqW x y (ρ x) (ρ y) := rfl
@[go_sem high] theorem execOp_neqW' (ρ : Operand → Value) (dst : Option Tmp) (x y : Operand) (r ty : TypeId) (pos : String) (after : Array Edge) (guard : Option (Nat × Bool)) :
    execOp ρ ⟨dst, .binOp .neq 100 x y r, ty, pos, after, guard⟩ = neqW x y (ρ x) (ρ y) := rfl
@[go_sem] theorem run_neqW (x y : Operand) (A B : Nat) (s t : Bool) (w : World) : (neqW x y (wV A s) (wV B t)).run Tryz.prog w = .ok (.value (.bool (!wideEq A B s t))) w := by
  unfold neqW
  go_simp

end Go.Proofs.YtilgjgdppfnefaaGreatDoor
namespace Go.Proofs.YtilgjgdppfnefaaGreatDoor
open Go.RowKit

theorem belowN {B m : Nat} {a w : World} (h : Below B a w) : Below B a (w.drewN m) := ⟨h.os, h.tape, h.output, h.size, h.block⟩
theorem below_four {B p : Nat} {w W : World} (h : Below B w W) (hp : B ≤ p) (x0 x1 x2 x3 : Value) : Below B w ((((W.setCell ⟨p, 0, none⟩ x0).setCell ⟨p, 1, none⟩ x1).setCell ⟨p, 2, none⟩ x2).setCell ⟨p, 3, none⟩ x3) :=
  (Below.setCell (p := ⟨p, 3, none⟩) (Below.setCell (p := ⟨p, 2, none⟩) (Below.setCell (p := ⟨p, 1, none⟩) (Below.setCell (p := ⟨p, 0, none⟩) h hp x0) hp x1) hp x2) hp x3)

set_option maxHeartbeats 1000000 in
theorem spanMask_any (s : Bool) (hi lo n : Int) (w : World) (h1 : 0 ≤ hi) (h2 : hi < 18446744073709551616) (h3 : 0 ≤ lo) (h4 : lo < 18446744073709551616) (hn1 : 0 ≤ n) (hn2 : n ≤ lenZ s) :
    Calls Tryz.prog 77 #[.agg #[.bool s, .int .u64 hi, .int .u64 lo], .int .i64 n] w (GivesV (maskV s hi lo n) w) := by
  have hl : lenZ s ≤ 128 := by cases s <;> decide
  obtain ⟨N, hN⟩ := Int.eq_ofNat_of_zero_le (show 0 ≤ lenZ s - n by omega)
  have hN' : N ≤ 128 := by omega
  obtain ⟨e1, e2⟩ := clr_halves hi lo N hN' h1 h2 h3 h4
  have HE := Lib.hid (show (Value.agg #[.bool s, .int .u64 (bits .andNot .u64 hi (onesH N : Int)), .int .u64 (bits .andNot .u64 lo (onesL N : Int)), .int .i64 n]) = maskV s hi lo n by rw [e1, e2]; unfold maskV; rw [hN, Int.toNat_natCast])
  clear e1 e2
  have hA := (Blk.new w [.bool s, .int .u64 hi, .int .u64 lo] 33).alloc (.cells #[.bool false, .int .u64 0, .int .u64 0, .int .i64 0] 78)
  have hB := Blk.new (w.alloc (.cells #[.bool s, .int .u64 hi, .int .u64 lo] 33)) [.bool false, .int .u64 0, .int .u64 0, .int .i64 0] 78
  simp at hB
  have hN2 := Lib.hid hN
  clear hN
  go_enter Tryz.func77, Tryz.ntmps77
  go_wp2_with fail
  refine (spanLength_any _ _).mono ?_
  rintro e w1 ⟨rfl, rfl⟩
  go_wp2_with fail
  rw [hN2.out]
  refine (ones_any _ hN' _).mono ?_
  rintro e w1 ⟨rfl, m, rfl⟩
  go_wp2_with fail
  refine bodyPost_ret ?_ rfl ⟨congrArg Ending.returned HE.out, ?_⟩
  · simp [results, Tryz.results77, go_sem]
  · exact below_four (belowN (((Below.refl _ _).alloc (Nat.le_refl _) _).alloc (by simp) _)) (by simp) _ _ _ _

/-- Two results: a prefix and an error. -/
abbrev pfR (p : Value) (e : Int) : Value := .tuple #[p, .int .i64 e]

set_option maxHeartbeats 1000000 in
theorem mask_ok (s : Bool) (hi lo n : Int) (w : World) (h1 : 0 ≤ hi) (h2 : hi < 18446744073709551616) (h3 : 0 ≤ lo) (h4 : lo < 18446744073709551616) (hA : adF s hi lo = 0) (hn1 : 0 ≤ n) (hn2 : n ≤ lenZ s) :
    Calls Tryz.prog 47 #[.agg #[.bool s, .int .u64 hi, .int .u64 lo], .int .i64 n] w (GivesV (pfR (maskV s hi lo n) 0) w) := by
  have hD := (Blk.new w [.bool s, .int .u64 hi, .int .u64 lo] 33).alloc (.cells #[.bool false, .int .u64 0, .int .u64 0, .int .i64 0] 78)
  have hB := Blk.new (w.alloc (.cells #[.bool s, .int .u64 hi, .int .u64 lo] 33)) [.bool false, .int .u64 0, .int .u64 0, .int .i64 0] 78
  simp at hB
  have H1 : (adF s hi lo != 0) = false := by simp [hA]
  have HA := Lib.hid hA
  clear hA
  have hn' : ¬ n < 0 := by omega
  have hn'' : ¬ lenZ s < n := by omega
  go_enter Tryz.func47, Tryz.ntmps47
  go_wp2_with fail
  refine (checkAddr_any _ _ _ _).mono ?_
  rintro e w1 ⟨rfl, hb1⟩
  have hB1 := hB.below hb1
  obtain ⟨a0, a1, a2, _⟩ := (hD.below hb1).three
  have hC1 : Below w.heap.size w w1 := (((Below.refl _ _).alloc (Nat.le_refl _) _).alloc (by simp) _).trans (hb1.mono (by simp; omega))
  clear hb1 hB hD
  go_wp2_with fail
  refine (spanLength_any _ _).mono ?_
  rintro e w2 ⟨rfl, rfl⟩
  go_wp2_with fail
  refine (spanMask_any _ _ _ _ _ h1 h2 h3 h4 hn1 hn2).mono ?_
  rintro e w2 ⟨rfl, hb2⟩
  obtain ⟨u0, u1, u2, u3, f0, f1, f2, f3⟩ := (hB1.below hb2).four
  have hC2 := hC1.trans (hb2.mono hC1.size)
  clear hb2 hB1 hC1
  go_wp2_with fail
  refine bodyPost_ret (v := pfR (maskV s hi lo n) 0) ?_ rfl ⟨rfl, ?_⟩
  · simp [results, Tryz.results47, go_sem, u0, u1, u2, u3]
  · exact below_four hC2 (by simp) _ _ _ _
end Go.Proofs.YtilgjgdppfnefaaGreatDoor
namespace Go.Proofs.YtilgjgdppfnefaaGreatDoor
open Go.RowKit

end Go.Proofs.YtilgjgdppfnefaaGreatDoor
namespace Go.Proofs.YtilgjgdppfnefaaGreatDoor
open Go.RowKit

/-- when's error. -/
def whenZ (b : Bool) (e : Int) : Int := if b then e else 0
set_option maxHeartbeats 400000 in
theorem when_any (b : Bool) (e : Int) (w : World) :
    Calls Tryz.prog 21 #[.bool b, .int .i64 e] w fun e' w' => e' = .returned (.int .i64 (whenZ b e)) ∧ w = w' := by
  cases b
  all_goals
    go_enter Tryz.func21, Tryz.ntmps21
    go_wp2_with fail
    go_ret
    exact ⟨rfl, rfl⟩

/-- The first of some errors. -/
def firstZ : List Int → Int
  | [] => 0
  | e :: r => if e = 0 then firstZ r else e

set_option maxHeartbeats 1000000 in
theorem errs_any (l : List Int) (p cap : Nat) (w : World) (hz : ∀ i, i < l.length → w.cell? ⟨p, i, none⟩ = some (.int .i64 (l.getD i 0))) (hl : l.length ≤ 100) :
    Calls Tryz.prog 13 #[.slice (some ⟨p, 0, none⟩) l.length cap] w fun e w' => e = .returned (.int .i64 (firstZ l)) ∧ w = w' := by
  go_enter Tryz.func13, Tryz.ntmps13
  go_wp2_with fail
  go_loop [7] (fun c => ∃ k : Nat, k ≤ l.length ∧ c = .int .i64 k ∧ firstZ (l.drop k) = firstZ l) (fun c => l.length - (intOf c).toNat)
  case atStart => exact ⟨0, Nat.zero_le _, rfl, rfl⟩
  case round =>
    obtain ⟨k, hk, rfl, hf⟩ := hrel
    have HF := Lib.hid hf
    clear hf
    by_cases hlt : k < l.length
    · have hc := hz k hlt
      have HD := Lib.hid (show firstZ (l.drop k) = if l.getD k 0 = 0 then firstZ (l.drop (k + 1)) else l.getD k 0 by rw [List.drop_eq_getElem_cons hlt, firstZ, List.getD_eq_getElem?_getD, List.getElem?_eq_getElem hlt]; rfl)
      generalize l.getD k 0 = x at hc HD
      clear hz
      by_cases hx : x = 0
      · have HX := Lib.hid hx
        have b0 : (x != 0) = false := by simp [hx]
        clear hx
        go_wp2_with fail
        go_round
        case rel => exact ⟨k + 1, by omega, by go_num, by rw [← HF.out, HD.out, if_pos HX.out]⟩
        case measure => simp [intOf]; omega
      · have HX := Lib.hid hx
        have b0 : (x != 0) = true := by simp [hx]
        clear hx
        go_wp2_with fail
        go_ret
        exact ⟨by rw [← HF.out, HD.out, if_neg HX.out]; rfl, rfl⟩
    · have hkl : k = l.length := by omega
      have HK := Lib.hid hkl
      clear hkl hz
      go_wp2_with fail
      go_ret
      exact ⟨by rw [← HF.out, HK.out, List.drop_length]; rfl, rfl⟩
end Go.Proofs.YtilgjgdppfnefaaGreatDoor
