/- Wide numbers: length, in, AddrFault, firstOf. -/
import Derived.Test.YtfpcalgkfagjkaaGreatDoorKrLaneB
import Derived.Test.YtfpcalgkfagjkaaGreatDoorKrPfxM
import Derived.ChangeAlike
namespace Go.Proofs.YtfpcalgkfagjkaaGreatDoor
open Go.RowKit

def digL (V : Nat) (s : Bool) : List Value := [.int .i64 (dig V 0), .int .i64 (dig V 1), .int .i64 (dig V 2), .int .i64 (dig V 3), .int .i64 (dig V 4), .int .i64 (dig V 5), .int .i64 (dig V 6), .int .i64 (dig V 7), .int .i64 (b2i s)]
abbrev wV (V : Nat) (s : Bool) : Value := .agg #[.int .i64 (dig V 0), .int .i64 (dig V 1), .int .i64 (dig V 2), .int .i64 (dig V 3), .int .i64 (dig V 4), .int .i64 (dig V 5), .int .i64 (dig V 6), .int .i64 (dig V 7), .int .i64 (b2i s)]

theorem and16 (x : Int) (h1 : 0 ≤ x) (h2 : x < 18446744073709551616) : wrap64 (bits .and .u64 x 65535) = ((x.toNat % 2 ^ 16 : Nat) : Int) := by
  rw [u64_and x 65535 h1 h2 (by decide) (by decide)]
  have : x.toNat &&& (65535 : Int).toNat = x.toNat % 2 ^ 16 := Nat.and_two_pow_sub_one_eq_mod x.toNat 16
  rw [this, IntWalk.wrap64_in]
  have := Nat.mod_lt x.toNat (show 0 < 2 ^ 16 by decide)
  omega

theorem dig_of_lo (hi lo : Int) (h3 : 0 ≤ lo) (h4 : lo < 18446744073709551616) (j : Nat) (hj : j < 4) (d : Int) (hd : d = 2 ^ (16 * j)) : wrap64 (bits .and .u64 (lo / d) 65535) = (dig (num hi lo) j : Int) := by
  subst hd
  have hp : (0 : Int) < 2 ^ (16 * j) := Int.pow_pos (by decide)
  have h0 : 0 ≤ lo / 2 ^ (16 * j) := Int.ediv_nonneg h3 (Int.le_of_lt hp)
  have h1 : lo / 2 ^ (16 * j) ≤ lo := Int.ediv_le_self _ h3
  rw [and16 _ h0 (by omega), dig_low hi lo h4 j hj]
  obtain ⟨L, rfl⟩ := Int.eq_ofNat_of_zero_le h3
  have : ((L : Int) / 2 ^ (16 * j)).toNat = L / 2 ^ (16 * j) := by
    rw [show ((2 : Int) ^ (16 * j)) = ((2 ^ (16 * j) : Nat) : Int) by simp, ← Int.natCast_ediv, Int.toNat_natCast]
  rw [this, Int.toNat_natCast]

theorem dig_of_hi (hi lo : Int) (h1 : 0 ≤ hi) (h2 : hi < 18446744073709551616) (h4 : lo < 18446744073709551616) (j : Nat) (d : Int) (hd : d = 2 ^ (16 * j)) : wrap64 (bits .and .u64 (hi / d) 65535) = (dig (num hi lo) (4 + j) : Int) := by
  subst hd
  have hp : (0 : Int) < 2 ^ (16 * j) := Int.pow_pos (by decide)
  have h0 : 0 ≤ hi / 2 ^ (16 * j) := Int.ediv_nonneg h1 (Int.le_of_lt hp)
  have h3 : hi / 2 ^ (16 * j) ≤ hi := Int.ediv_le_self _ h1
  rw [and16 _ h0 (by omega), dig_high hi lo h4 j]
  obtain ⟨L, rfl⟩ := Int.eq_ofNat_of_zero_le h1
  have : ((L : Int) / 2 ^ (16 * j)).toNat = L / 2 ^ (16 * j) := by
    rw [show ((2 : Int) ^ (16 * j)) = ((2 ^ (16 * j) : Nat) : Int) by simp, ← Int.natCast_ediv, Int.toNat_natCast]
  rw [this, Int.toNat_natCast]

def GivesV (v : Value) (w : World) (e : Ending) (w' : World) : Prop := e = .returned v ∧ Below w.heap.size w w'

theorem of_eq (hi lo : Int) (h1 : 0 ≤ hi) (h2 : hi < 18446744073709551616) (h3 : 0 ≤ lo) (h4 : lo < 18446744073709551616) (s : Bool) (z : Int) (hz : z = b2i s) :
    Value.agg #[.int .i64 (wrap64 (bits .and .u64 lo 65535)), .int .i64 (wrap64 (bits .and .u64 (lo / 65536) 65535)), .int .i64 (wrap64 (bits .and .u64 (lo / 4294967296) 65535)), .int .i64 (wrap64 (bits .and .u64 (lo / 281474976710656) 65535)),
      .int .i64 (wrap64 (bits .and .u64 hi 65535)), .int .i64 (wrap64 (bits .and .u64 (hi / 65536) 65535)), .int .i64 (wrap64 (bits .and .u64 (hi / 4294967296) 65535)), .int .i64 (wrap64 (bits .and .u64 (hi / 281474976710656) 65535)), .int .i64 z] = wV (num hi lo) s := by
  have a0 := dig_of_lo hi lo h3 h4 0 (by decide) 1 (by decide)
  have a1 := dig_of_lo hi lo h3 h4 1 (by decide) 65536 (by decide)
  have a2 := dig_of_lo hi lo h3 h4 2 (by decide) 4294967296 (by decide)
  have a3 := dig_of_lo hi lo h3 h4 3 (by decide) 281474976710656 (by decide)
  have b0 := dig_of_hi hi lo h1 h2 h4 0 1 (by decide)
  have b1 := dig_of_hi hi lo h1 h2 h4 1 65536 (by decide)
  have b2 := dig_of_hi hi lo h1 h2 h4 2 4294967296 (by decide)
  have b3 := dig_of_hi hi lo h1 h2 h4 3 281474976710656 (by decide)
  rw [Int.ediv_one] at a0 b0
  rw [a0, a1, a2, a3, b0, b1, b2, b3, hz]

set_option maxHeartbeats 1000000 in
theorem of_any (s : Bool) (hi lo : Int) (w : World) (h1 : 0 ≤ hi) (h2 : hi < 18446744073709551616) (h3 : 0 ≤ lo) (h4 : lo < 18446744073709551616) :
    Calls Tryz.prog 44 #[.agg #[.bool s, .int .u64 hi, .int .u64 lo]] w (GivesV (wV (num hi lo) s) w) := by
  have H := Lib.hid (of_eq hi lo h1 h2 h3 h4 s _ rfl)
  cases s
  all_goals
    go_enter Tryz.func44, Tryz.ntmps44
    go_wp2_with fail
    refine wp_loop_rounds 5 ?_
    rw [rounds_succ]
    go_wp2_with fail
    rw [rounds_succ]
    go_wp2_with fail
    rw [rounds_succ]
    go_wp2_with fail
    rw [rounds_succ]
    go_wp2_with fail
    rw [rounds_succ]
    go_wp2_with fail
    refine bodyPost_ret ?_ rfl ⟨congrArg Ending.returned H.out, ?_⟩
    · simp [results, Tryz.results44, go_sem, b2i_true, b2i_false]
    · exact (((Below.refl _ _).alloc (Nat.le_refl _) _).alloc (by simp) _).alloc (by simp; omega) _

def lenZ (s : Bool) : Int := if s then 128 else 32
set_option maxHeartbeats 400000 in
theorem length_any (s : Bool) (hi lo : Int) (w : World) :
    Calls Tryz.prog 68 #[.agg #[.bool s, .int .u64 hi, .int .u64 lo]] w (GivesV (.int .i64 (lenZ s)) w) := by
  cases s
  all_goals
    go_enter Tryz.func68, Tryz.ntmps68
    go_wp2_with fail
    go_ret
    exact ⟨rfl, (Below.refl _ _).alloc (Nat.le_refl _) _⟩

def inB (n lo hi : Int) : Bool := decide (lo ≤ n ∧ n ≤ hi)

set_option maxHeartbeats 400000 in
theorem in_any (n lo hi : Int) (w : World) :
    Calls Tryz.prog 67 #[.int .i64 n, .int .i64 lo, .int .i64 hi] w fun e w' => e = .returned (.bool (inB n lo hi)) ∧ w = w' := by
  by_cases h1 : lo ≤ n
  · by_cases h2 : n ≤ hi
    · go_enter Tryz.func67, Tryz.ntmps67
      go_wp2_with fail
      go_ret
      exact ⟨by unfold inB; rw [decide_eq_true (by omega)]; rfl, rfl⟩
    · go_enter Tryz.func67, Tryz.ntmps67
      go_wp2_with fail
      go_ret
      exact ⟨by unfold inB; rw [decide_eq_false (by omega)]; rfl, rfl⟩
  · go_enter Tryz.func67, Tryz.ntmps67
    go_wp2_with fail
    go_ret
    exact ⟨by unfold inB; rw [decide_eq_false (by omega)]; rfl, rfl⟩

def adF (s : Bool) (hi lo : Int) : Int := if s = false ∧ (hi ≠ 0 ∨ 4294967296 ≤ lo) then 3 else 0

set_option maxHeartbeats 400000 in
theorem addrFault_any (s : Bool) (hi lo : Int) (w : World) (h1 : 0 ≤ hi) :
    Calls Tryz.prog 15 #[.agg #[.bool s, .int .u64 hi, .int .u64 lo]] w (GivesV (.int .i64 (adF s hi lo)) w) := by
  cases s
  · by_cases h : 0 < hi
    · have H := Lib.hid (show adF false hi lo = 3 from if_pos ⟨rfl, .inl (by omega)⟩)
      go_enter Tryz.func15, Tryz.ntmps15
      go_wp2_with fail
      go_ret
      exact ⟨by rw [H.out]; rfl, (Below.refl _ _).alloc (Nat.le_refl _) _⟩
    · by_cases h' : 4294967295 < lo
      · have H := Lib.hid (show adF false hi lo = 3 from if_pos ⟨rfl, .inr (by omega)⟩)
        go_enter Tryz.func15, Tryz.ntmps15
        go_wp2_with fail
        go_ret
        exact ⟨by rw [H.out]; rfl, (Below.refl _ _).alloc (Nat.le_refl _) _⟩
      · have H := Lib.hid (show adF false hi lo = 0 from if_neg (by omega))
        go_enter Tryz.func15, Tryz.ntmps15
        go_wp2_with fail
        go_ret
        exact ⟨by rw [H.out]; rfl, (Below.refl _ _).alloc (Nat.le_refl _) _⟩
  · go_enter Tryz.func15, Tryz.ntmps15
    go_wp2_with fail
    go_ret
    exact ⟨rfl, (Below.refl _ _).alloc (Nat.le_refl _) _⟩

def pfF (s : Bool) (hi lo n : Int) : Int := if adF s hi lo ≠ 0 then 3 else if inB n 0 (lenZ s) = false then 1 else if clr (num hi lo) (lenZ s - n).toNat = num hi lo then 0 else 3

theorem adF_two (s : Bool) (hi lo : Int) : adF s hi lo = 0 ∨ adF s hi lo = 3 := by unfold adF; split <;> simp

theorem andNot_i64 (D j : Nat) (hD : D < 65536) (hj : j < 16) : bits BinOp.andNot IntKind.i64 (D : Int) (wrap64 (2 ^ j)) = ((D &&& (2 ^ 64 - (2 ^ j + 1)) : Nat) : Int) := by
  have hp : (2 : Nat) ^ j < 2 ^ 16 := Nat.pow_lt_pow_right (by decide) hj
  have hw : wrap64 (2 ^ j) = ((2 ^ j : Nat) : Int) := by
    rw [IntWalk.wrap64_in]
    · simp
    · have a1 : (0 : Int) < 2 ^ j := Int.pow_pos (by decide)
      have a2 : ((2 : Int) ^ j) < 65536 := by have := Int.ofNat_lt.2 hp; simpa using this
      omega
  rw [hw]
  show IntKind.i64.wrap ((BitVec.ofInt 64 (D : Int) &&& ~~~BitVec.ofInt 64 ((2 ^ j : Nat) : Int)).toNat : Int) = _
  have o1 : (BitVec.ofInt 64 (D : Int)).toNat = D := by rw [BitVec.ofInt_natCast, BitVec.toNat_ofNat]; exact Nat.mod_eq_of_lt (by omega)
  have o2 : (BitVec.ofInt 64 ((2 ^ j : Nat) : Int)).toNat = 2 ^ j := by rw [BitVec.ofInt_natCast, BitVec.toNat_ofNat]; exact Nat.mod_eq_of_lt (by omega)
  rw [BitVec.toNat_and, BitVec.toNat_not, o1, o2]
  have e : 2 ^ 64 - 1 - 2 ^ j = 2 ^ 64 - (2 ^ j + 1) := by omega
  rw [e]
  have hle : D &&& (2 ^ 64 - (2 ^ j + 1)) ≤ D := Nat.and_le_left
  exact IntWalk.i64_in _ (by omega)

theorem digL_eq (V : Nat) (s : Bool) : digL V s = (List.range 8).map (fun j => Value.int .i64 (dig V j)) ++ [.int .i64 (b2i s)] := rfl

theorem digL_get (V : Nat) (s : Bool) (j : Nat) (hj : j < 8) : (digL V s)[j]? = some (.int .i64 (dig V j)) := by
  rw [digL_eq, List.getElem?_append_left (by simpa using hj)]; simp [hj]

theorem digL_clr (V k : Nat) (s : Bool) (hk : k < 128) : (digL (clr V k) s).set (k / 16) (.int .i64 ((dig (clr V k) (k / 16) &&& (2 ^ 64 - (2 ^ (k % 16) + 1)) : Nat) : Int)) = digL (clr V (k + 1)) s := by
  have h8 : k / 16 < 8 := by omega
  rw [← dig_clr_here]
  apply List.ext_getElem?
  intro j
  rw [List.getElem?_set]
  by_cases hj : k / 16 = j
  · subst hj
    rw [if_pos rfl, if_pos (show k / 16 < (digL (clr V k) s).length by simp [digL]; omega), digL_get _ _ _ h8]
  · rw [if_neg hj]
    by_cases h : j < 8
    · rw [digL_get _ _ _ h, digL_get _ _ _ h, dig_clr_other V k j (fun e => hj e.symm)]
    · rw [digL_eq, digL_eq, List.getElem?_append_right (by simp; omega), List.getElem?_append_right (by simp; omega)]
      simp

theorem Blk.nine {w : World} {p : Nat} {x0 x1 x2 x3 x4 x5 x6 x7 x8 : Value} {t : TypeId} (h : Blk w p [x0, x1, x2, x3, x4, x5, x6, x7, x8] t) :
    w.cell? ⟨p, 0, none⟩ = some x0 ∧ w.cell? ⟨p, 1, none⟩ = some x1 ∧ w.cell? ⟨p, 2, none⟩ = some x2 ∧ w.cell? ⟨p, 3, none⟩ = some x3 ∧ w.cell? ⟨p, 4, none⟩ = some x4 ∧ w.cell? ⟨p, 5, none⟩ = some x5 ∧ w.cell? ⟨p, 6, none⟩ = some x6 ∧ w.cell? ⟨p, 7, none⟩ = some x7 ∧ w.cell? ⟨p, 8, none⟩ = some x8 :=
  ⟨h.cell rfl, h.cell rfl, h.cell rfl, h.cell rfl, h.cell rfl, h.cell rfl, h.cell rfl, h.cell rfl, h.cell rfl⟩
theorem Blk.nineFree {w : World} {p : Nat} {cs : List Value} {t : TypeId} (h : Blk w p cs t) :
    w.frozen? ⟨p, 0, none⟩ = false ∧ w.frozen? ⟨p, 1, none⟩ = false ∧ w.frozen? ⟨p, 2, none⟩ = false ∧ w.frozen? ⟨p, 3, none⟩ = false ∧ w.frozen? ⟨p, 4, none⟩ = false ∧ w.frozen? ⟨p, 5, none⟩ = false ∧ w.frozen? ⟨p, 6, none⟩ = false ∧ w.frozen? ⟨p, 7, none⟩ = false ∧ w.frozen? ⟨p, 8, none⟩ = false :=
  ⟨h.free _, h.free _, h.free _, h.free _, h.free _, h.free _, h.free _, h.free _, h.free _⟩

theorem below_nine {B p : Nat} {w W : World} (h : Below B w W) (hp : B ≤ p) (x0 x1 x2 x3 x4 x5 x6 x7 x8 : Value) : Below B w (((((((((W.setCell ⟨p, 0, none⟩ x0).setCell ⟨p, 1, none⟩ x1).setCell ⟨p, 2, none⟩ x2).setCell ⟨p, 3, none⟩ x3).setCell ⟨p, 4, none⟩ x4).setCell ⟨p, 5, none⟩ x5).setCell ⟨p, 6, none⟩ x6).setCell ⟨p, 7, none⟩ x7).setCell ⟨p, 8, none⟩ x8) :=
  (Below.setCell (p := ⟨p, 8, none⟩) (Below.setCell (p := ⟨p, 7, none⟩) (Below.setCell (p := ⟨p, 6, none⟩) (Below.setCell (p := ⟨p, 5, none⟩) (Below.setCell (p := ⟨p, 4, none⟩) (Below.setCell (p := ⟨p, 3, none⟩) (Below.setCell (p := ⟨p, 2, none⟩) (Below.setCell (p := ⟨p, 1, none⟩) (Below.setCell (p := ⟨p, 0, none⟩) h hp x0) hp x1) hp x2) hp x3) hp x4) hp x5) hp x6) hp x7) hp x8)

set_option maxHeartbeats 1000000 in
theorem firstOf_any (s : Bool) (hi lo n : Int) (w : World) (h1 : 0 ≤ hi) (h2 : hi < 18446744073709551616) (h3 : 0 ≤ lo) (h4 : lo < 18446744073709551616) (hn1 : 0 ≤ n) (hn2 : n ≤ lenZ s) :
    Calls Tryz.prog 69 #[.agg #[.bool s, .int .u64 hi, .int .u64 lo], .int .i64 n] w (GivesV (wV (clr (num hi lo) (lenZ s - n).toNat) s) w) := by
  have hl : lenZ s ≤ 128 := by cases s <;> decide
  go_enter Tryz.func69, Tryz.ntmps69
  go_wp2_with fail
  refine (of_any _ _ _ _ h1 h2 h3 h4).mono ?_
  rintro e w1 ⟨rfl, hb1⟩
  have hA := (Blk.new w [.bool s, .int .u64 hi, .int .u64 lo] 30)
  have hR := (Blk.new (w.alloc (.cells #[.bool s, .int .u64 hi, .int .u64 lo] 30)) [.int .i64 0, .int .i64 0, .int .i64 0, .int .i64 0, .int .i64 0, .int .i64 0, .int .i64 0, .int .i64 0, .int .i64 0] 77)
  have hA1 := (hA.alloc _).below hb1
  have hR1 := hR.below hb1
  simp at hR1
  obtain ⟨a0, a1, a2, e0, e1, e2⟩ := hA1.three
  have hz1 := hb1.size
  simp at hz1
  have hx1 : w.heap.size < w1.heap.size := by omega
  have hy1 : w.heap.size + 1 < w1.heap.size := by omega
  have hD := Blk.new w1 (digL (num hi lo) s) 77
  have hA2 := hA1.alloc (.cells (digL (num hi lo) s).toArray 77)
  have hR2 := hR1.alloc (.cells (digL (num hi lo) s).toArray 77)
  have hB2 : Below w.heap.size w (w1.alloc (.cells (digL (num hi lo) s).toArray 77)) := ((((Below.refl _ _).alloc (Nat.le_refl _) _).alloc (by simp) _).trans (hb1.mono (by simp; omega))).alloc (by omega) _
  clear hA hR hA1 hR1 hb1
  go_wp2_with fail
  refine (length_any _ _ _ _).mono ?_
  rintro e w2 ⟨rfl, hb2⟩
  have hD2 := hD.below hb2
  have hR2 := hR2.below hb2
  have hz2 := hb2.size
  simp at hz2
  have hB2 := hB2.trans (hb2.mono (by simp; omega))
  clear hb2 hD hA2
  go_wp2_with fail
  obtain ⟨N, hN⟩ := Int.eq_ofNat_of_zero_le (show 0 ≤ lenZ s - n by omega)
  have hN' : N ≤ 128 := by omega
  rw [hN]
  go_loopw [13] (fun c wr => ∃ k : Nat, k ≤ N ∧ c = .int .i64 k ∧ Blk wr w1.heap.size (digL (clr (num hi lo) k) s) 77 ∧ Blk wr (w.heap.size + 1) [.int .i64 0, .int .i64 0, .int .i64 0, .int .i64 0, .int .i64 0, .int .i64 0, .int .i64 0, .int .i64 0, .int .i64 0] 77 ∧ Below w.heap.size w wr) (fun c _ => N - (intOf c).toNat)
  case atStart => exact ⟨0, Nat.zero_le _, rfl, by rw [clr_zero]; exact hD2, hR2, hB2⟩
  case round =>
    obtain ⟨k, hk, rfl, hD3, hR3, hB3⟩ := hrel
    by_cases hlt : k < N
    · have hc := hD3.cell (digL_get _ s (k / 16) (by omega))
      have hf := hD3.free (k / 16)
      go_wp2_with fail
      go_region
      go_wp2_with fail
      have hv : bits BinOp.andNot IntKind.i64 (↑(dig (clr (num hi lo) k) (k / 16))) (wrap64 (2 ^ (k % 16))) = ((dig (clr (num hi lo) k) (k / 16) &&& (2 ^ 64 - (2 ^ (k % 16) + 1)) : Nat) : Int) := andNot_i64 _ _ (dig_lt _ _) (by omega)
      rw [hv]
      refine ⟨⟨k + 1, by omega, by go_num, ?_, (hR3.other (by simp; omega) _).drew, (hB3.setCell (by simp; omega) _).drew⟩, by simp [intOf]; omega⟩
      have := (hD3.set (k / 16) (.int .i64 ((dig (clr (num hi lo) k) (k / 16) &&& (2 ^ 64 - (2 ^ (k % 16) + 1)) : Nat) : Int))).drew
      rwa [digL_clr _ _ _ (by omega)] at this
    · obtain ⟨z0, z1, z2, z3, z4, z5, z6, z7, z8⟩ := hR3.nine
      obtain ⟨y0, y1, y2, y3, y4, y5, y6, y7, y8⟩ := hR3.nineFree
      obtain ⟨d0, d1, d2, d3, d4, d5, d6, d7, d8⟩ := hD3.nine
      go_wp2_with fail
      have hkN : k = N := by omega
      subst hkN
      refine bodyPost_ret (v := wV (clr (num hi lo) k) s) ?_ rfl ⟨by rw [hN, Int.toNat_natCast], ?_⟩
      · simp [results, Tryz.results69, go_sem, z0, z1, z2, z3, z4, z5, z6, z7, z8]
      · exact below_nine hB3 (by omega) _ _ _ _ _ _ _ _ _
end Go.Proofs.YtfpcalgkfagjkaaGreatDoor
