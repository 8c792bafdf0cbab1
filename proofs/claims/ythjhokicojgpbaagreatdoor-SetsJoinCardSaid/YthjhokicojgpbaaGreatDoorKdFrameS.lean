/- The frame of the laws over sets: the listed tables hold, the list that came in is a stream. -/
import Derived.Test.YthjhokicojgpbaaGreatDoorKdStF
import Derived.Test.YthjhokicojgpbaaGreatDoorKdShelf
import Derived.Shelf.Spec.TrailingZeros
import Derived.Shelf.Spec.BitsCarry
import Derived.Test.YthjhokicojgpbaaGreatDoorKdLaneA
import Derived.Test.YthjhokicojgpbaaGreatDoorTie
import Derived.Test.YthjhokicojgpbaaGreatDoorCards
import Derived.ProofKit
import Derived.LaidMore
import Derived.OpenShut
import Derived.Stop.Joined
import Derived.ShutString
import Derived.ChangeOld
import Derived.Below
import Derived.Deep.RegionHeld
import Derived.SevenTiedAt
import Derived.Lib.LaidTab
import Derived.LaidSub
import Derived.Lay
import Derived.MakeChecks
import Derived.Shelf.Vars
namespace Go.Proofs.YthjhokicojgpbaaGreatDoor
open Go.RowKit
set_option linter.unusedVariables false
set_option linter.unusedSimpArgs false

/-- math/bits.Add64 and Sub64, as they run. -/
theorem add64_run (x y c : Int) (hx : 0 ≤ x) (hy : 0 ≤ y) (h0 : 0 ≤ c) (h1 : c ≤ 1) (w : World) :
    (callFunc 138 #[.int .u64 x, .int .u64 y, .int .u64 c]).run Tryz.prog w = .ok (.value (.tuple #[.int .u64 ((x + y + c) % 18446744073709551616), .int .u64 ((x + y + c) / 18446744073709551616)])) w := by
  rw [run_callFunc_extern Tryz.func138 (by kernel_rfl) (by kernel_rfl) (by kernel_rfl) (e := add64Entry) (by kernel_rfl), run_add64 x y c hx hy h0 h1]
  rfl
theorem sub64_run (x y b : Int) (hx : 0 ≤ x) (hy : 0 ≤ y) (hyl : y < 18446744073709551616) (h0 : b = 0 ∨ b = 1) (w : World) :
    (callFunc 247 #[.int .u64 x, .int .u64 y, .int .u64 b]).run Tryz.prog w = .ok (.value (.tuple #[.int .u64 ((x - y - b) % 18446744073709551616), .int .u64 (if x < y + b then 1 else 0)])) w := by
  obtain ⟨X, rfl⟩ := Int.eq_ofNat_of_zero_le hx
  obtain ⟨Y, rfl⟩ := Int.eq_ofNat_of_zero_le hy
  obtain ⟨B, rfl⟩ := Int.eq_ofNat_of_zero_le (show 0 ≤ b by omega)
  have e := Go.Proofs.run_sub64 (P := Tryz.prog) X Y B (by omega) w
  rw [run_callFunc_extern Tryz.func247 (by kernel_rfl) (by kernel_rfl) (by kernel_rfl) (e := Go.Proofs.sub64Entry) (by kernel_rfl), e]
  have e1 : (((X + 18446744073709551616 - Y - B) % 18446744073709551616 : Nat) : Int) = ((X : Int) - Y - B) % 18446744073709551616 := by omega
  have e2 : ((if X < Y + B then 1 else 0 : Nat) : Int) = if (X : Int) < (Y : Int) + (B : Int) then 1 else 0 := by
    by_cases h : X < Y + B
    · rw [if_pos h, if_pos (by omega)]; rfl
    · rw [if_neg h, if_neg (by omega)]; rfl
  rw [e1, e2]
  rfl

/-- The table of trailing zeros lies in its variable. -/
def Tz (w : World) : Prop := Go.Proofs.TabAt 8 Lib.deBruijn64tab w ∧ 8 < w.heap.size
theorem Tz.below {w w' : World} (h : Tz w) (hb : Below w.heap.size w w') : Tz w' :=
  ⟨fun j hj => (hb.cell (p := ⟨8, j, none⟩) h.2).trans (h.1 j hj), Nat.lt_of_lt_of_le h.2 hb.size⟩
theorem Tz.alloc {w : World} (h : Tz w) (o : Obj) : Tz (w.alloc o) := h.below ((Below.refl _ _).alloc (Nat.le_refl _) _)
theorem Tz.upto {w w' : World} {B : Nat} (h : Tz w) (hb : Below B w w') (hB : 8 < B) : Tz w' :=
  ⟨fun j hj => (hb.cell (p := ⟨8, j, none⟩) hB).trans (h.1 j hj), Nat.lt_of_lt_of_le h.2 hb.size⟩

theorem tz64_zero (w : World) : Calls Tryz.prog 246 #[.int .u64 0] w fun e w' => e = .returned (.int .i64 64) ∧ w = w' := by
  go_enter Tryz.func246, Tryz.ntmps246
  go_wp2
  go_ret
  exact ⟨rfl, rfl⟩
set_option maxHeartbeats 1000000 in
theorem tz64_core (x k idx : Nat) (w : World) (hx0 : ((x : Int) == 0) = false)
    (key : IntKind.u64.wrap (bits BinOp.and IntKind.u64 (x : Int) (IntKind.u64.wrap (-(x : Int))) * 285870213051353865) / 288230376151711744 = (idx : Int))
    (hi : idx < 64) (hk : k < 64) (hcell : w.cell? ⟨8, idx, none⟩ = some (.int .u8 k)) :
    Calls Tryz.prog 246 #[.int .u64 x] w fun e w' => e = .returned (.int .i64 k) ∧ w = w' := by
  go_enter Tryz.func246, Tryz.ntmps246
  go_wp2_with (simp only [key])
  go_ret
  exact ⟨rfl, rfl⟩
theorem tz64_any (x : Int) (w : World) (h0 : 0 ≤ x) (hx : x < 18446744073709551616) (hT : Tz w) :
    Calls Tryz.prog 246 #[.int .u64 x] w fun e w' => e = .returned (.int .i64 (Lib.ctz 64 x.toNat)) ∧ w = w' := by
  obtain ⟨X, rfl⟩ := Int.eq_ofNat_of_zero_le h0
  rw [Int.toNat_natCast]
  by_cases hx0 : X = 0
  · subst hx0
    exact tz64_zero w
  · obtain ⟨hlow, hk⟩ := Lib.lowest_bit 64 X hx0 (by omega)
    obtain ⟨hi, htab⟩ := Lib.deBruijn64_at _ hk
    have hcell := hT.1 _ hi
    rw [htab] at hcell
    exact tz64_core X _ _ w (by simp; omega) (Go.Proofs.tz64_key X _ (by omega) hx0 hlow) hi hk hcell

/-- How often 2 goes into a number. -/
theorem ctz_spec {x : Nat} (h0 : x ≠ 0) (hx : x < 2 ^ 64) : 2 ^ Lib.ctz 64 x ∣ x ∧ ¬ 2 ^ (Lib.ctz 64 x + 1) ∣ x ∧ Lib.ctz 64 x < 64 := by
  unfold Lib.ctz
  rw [if_neg h0]
  obtain ⟨m, hm, hk⟩ := Lib.ctzFrom_spec 64 x (by omega) hx
  generalize Lib.ctzFrom 64 x = k at *
  refine ⟨⟨_, hm⟩, ?_, hk⟩
  rintro ⟨c, hc⟩
  rw [hm, Nat.pow_succ, Nat.mul_assoc] at hc
  have := Nat.eq_of_mul_eq_mul_left (Nat.two_pow_pos k) hc
  omega
theorem bitLenAux_spec : ∀ (f x : Nat), x < 2 ^ f → 0 < x → 2 ^ (Lib.bitLenAux f x - 1) ≤ x ∧ x < 2 ^ Lib.bitLenAux f x ∧ 1 ≤ Lib.bitLenAux f x
  | 0, x, h, h0 => by simp at h; omega
  | f + 1, x, h, h0 => by
    unfold Lib.bitLenAux
    rw [if_neg (by omega)]
    rcases Nat.eq_zero_or_pos (x / 2) with e | e
    · have : x = 1 := by omega
      subst this
      rw [show (1 : Nat) / 2 = 0 from rfl]
      have : Lib.bitLenAux f 0 = 0 := by cases f <;> simp [Lib.bitLenAux]
      rw [this]; decide
    · obtain ⟨a, b, c⟩ := bitLenAux_spec f (x / 2) (by rw [Nat.pow_succ] at h; omega) e
      refine ⟨?_, ?_, by omega⟩
      · rw [show 1 + Lib.bitLenAux f (x / 2) - 1 = (Lib.bitLenAux f (x / 2) - 1) + 1 by omega, Nat.pow_succ]; omega
      · rw [Nat.add_comm 1, Nat.pow_succ]; omega
theorem bitLen_spec {x : Nat} (h0 : 0 < x) (hx : x < 2 ^ 64) : 2 ^ (Lib.bitLen x - 1) ≤ x ∧ x < 2 ^ Lib.bitLen x ∧ 1 ≤ Lib.bitLen x := bitLenAux_spec 64 x hx h0

/-- The zeros at the end of an address's bits. -/
def zerosA (a : Ad) : Nat := if a.lo = 0 then 64 + Lib.ctz 64 a.hi.toNat else Lib.ctz 64 a.lo.toNat
theorem zerosA_spec {a : Ad} (h : a.U) : (a.v = 0 ∧ zerosA a = 128) ∨ (2 ^ zerosA a ∣ a.v ∧ ¬ 2 ^ (zerosA a + 1) ∣ a.v ∧ zerosA a < 128) := by
  obtain ⟨⟨h1, h2⟩, ⟨h3, h4⟩⟩ := h
  unfold zerosA Ad.v num
  by_cases hl : a.lo = 0
  · rw [if_pos hl, hl]
    by_cases hh : a.hi = 0
    · left; rw [hh]; exact ⟨rfl, rfl⟩
    · right
      obtain ⟨g1, g2, g3⟩ := ctz_spec (x := a.hi.toNat) (by omega) (by omega)
      generalize Lib.ctz 64 a.hi.toNat = k at *
      rw [show (0 : Int).toNat = 0 from rfl, Nat.add_zero, Nat.pow_add, Nat.mul_comm (2 ^ 64)]
      refine ⟨Nat.mul_dvd_mul_right g1 _, ?_, by omega⟩
      rw [show 64 + k + 1 = (k + 1) + 64 by omega, Nat.pow_add]
      intro hd
      exact g2 (Nat.dvd_of_mul_dvd_mul_right (by decide) hd)
  · right
    rw [if_neg hl]
    obtain ⟨g1, g2, g3⟩ := ctz_spec (x := a.lo.toNat) (by omega) (by omega)
    generalize Lib.ctz 64 a.lo.toNat = k at *
    have hd : ∀ j, j ≤ 64 → (2 ^ j ∣ a.hi.toNat * 2 ^ 64 + a.lo.toNat ↔ 2 ^ j ∣ a.lo.toNat) := fun j hj =>
      (Nat.dvd_add_iff_right (Nat.dvd_trans (Nat.pow_dvd_pow 2 hj) (Nat.dvd_mul_left _ _))).symm
    exact ⟨(hd k (by omega)).2 g1, fun h => g2 ((hd (k + 1) (by omega)).1 h), by omega⟩

theorem ctz_le (x : Nat) (hx : x < 2 ^ 64) : Lib.ctz 64 x ≤ 64 := by
  by_cases h : x = 0
  · subst h; decide
  · exact Nat.le_of_lt (ctz_spec h hx).2.2

set_option maxHeartbeats 1000000 in
theorem zeros_any (a : Ad) (w : World) (h : a.U) (hT : Tz w) :
    Calls Tryz.prog 219 #[adA a] w (GivesD (.int .i64 (zerosA a)) w) := by
  obtain ⟨⟨h1, h2⟩, ⟨h3, h4⟩⟩ := h
  have hB := Blk.new w (adC a) 28
  have hT1 := hT.alloc (.cells (adC a).toArray 28)
  have c1 := hB.cell (i := 1) (v := .int .u64 a.hi) rfl
  have c2 := hB.cell (i := 2) (v := .int .u64 a.lo) rfl
  have hG : Gd w (w.alloc (.cells (adC a).toArray 28)) := (Gd.refl w).alloc _
  have hle := ctz_le a.hi.toNat (by omega)
  by_cases hl : a.lo = 0
  · have HR := Lib.hid (show ((zerosA a : Nat) : Int) = 64 + (Lib.ctz 64 a.hi.toNat : Nat) by unfold zerosA; rw [if_pos hl]; omega)
    have H1 := Lib.hid (tz64_any a.hi _ h1 h2 hT1)
    have b0 : (a.lo != 0) = false := by simp [hl]
    generalize Lib.ctz 64 a.hi.toNat = k at *
    clear hl hT hT1 hB
    go_enter Tryz.func219, Tryz.ntmps219
    go_wp2_with fail
    refine H1.out.mono ?_
    rintro e w1 ⟨rfl, rfl⟩
    go_wp2_with fail
    go_ret
    exact ⟨ret_i64 HR.out.symm, hG⟩
  · have HR := Lib.hid (show ((zerosA a : Nat) : Int) = (Lib.ctz 64 a.lo.toNat : Nat) by unfold zerosA; rw [if_neg hl])
    have H1 := Lib.hid (tz64_any a.lo _ h3 h4 hT1)
    have b0 : (a.lo != 0) = true := by simp [hl]
    clear hl hT hT1 hB
    go_enter Tryz.func219, Tryz.ntmps219
    go_wp2_with fail
    refine H1.out.mono ?_
    rintro e w1 ⟨rfl, rfl⟩
    go_wp2_with fail
    go_ret
    exact ⟨ret_i64 HR.out.symm, hG⟩

/-- The greatest power of 2 that is no more than so many. -/
def IsLog (S p : Nat) : Prop := 2 ^ p ≤ S ∧ S < 2 ^ (p + 1)
theorem mul_join {a b h l K : Nat} (k1 : a ≤ h) (k2 : h < b) (hl : l < K) : a * K ≤ h * K + l ∧ h * K + l < b * K := by
  have h1 := Nat.mul_le_mul_right K k1
  have h2 := Nat.mul_le_mul_right K (Nat.succ_le_of_lt k2)
  rw [Nat.succ_mul] at h2
  omega
theorem log_join {h l n : Nat} (k1 : 2 ^ (n - 1) ≤ h) (k2 : h < 2 ^ n) (k3 : 1 ≤ n) (hl : l < 2 ^ 64) : IsLog (h * 2 ^ 64 + l) (63 + n) := by
  have := mul_join k1 k2 hl
  unfold IsLog
  rw [show 63 + n = (n - 1) + 64 by omega, show n - 1 + 64 + 1 = n + 64 by omega, Nat.pow_add, Nat.pow_add]
  exact this
def PowPost (S : Nat) (w : World) (e : Ending) (w' : World) : Prop := ∃ p : Nat, p ≤ 128 ∧ IsLog S p ∧ e = .returned (.int .i64 (p : Int)) ∧ Gd w w'

theorem pow_math {ah al bh bl L1 B1 H1 L2 C H2 O : Int} (a1 : U64 ah) (a2 : U64 al) (b1 : U64 bh) (b2 : U64 bl) (hle : num ah al ≤ num bh bl)
    (e1 : L1 = (bl - al - 0) % 18446744073709551616) (e2 : B1 = if bl < al + 0 then 1 else 0) (e3 : H1 = (bh - ah - B1) % 18446744073709551616)
    (e4 : L2 = (L1 + 1 + 0) % 18446744073709551616) (e5 : C = (L1 + 1 + 0) / 18446744073709551616) (e6 : H2 = (H1 + 0 + C) % 18446744073709551616) (e7 : O = (H1 + 0 + C) / 18446744073709551616) :
    0 ≤ L2 ∧ L2 < 18446744073709551616 ∧ 0 ≤ H2 ∧ H2 < 18446744073709551616 ∧ 0 ≤ O ∧ O ≤ 1 ∧ ((num bh bl - num ah al + 1 : Nat) : Int) = O * 340282366920938463463374607431768211456 + H2 * 18446744073709551616 + L2 := by
  unfold num U64 at *
  have hB : (B1 = 1 ∧ bl < al) ∨ (B1 = 0 ∧ al ≤ bl) := by
    by_cases h : bl < al + 0
    · rw [if_pos h] at e2; exact .inl ⟨e2, by omega⟩
    · rw [if_neg h] at e2; exact .inr ⟨e2, by omega⟩
  clear e2
  omega

set_option maxHeartbeats 4000000 in
theorem power_any (a b : Ad) (w : World) (ha : a.U) (hb : b.U) (hle : a.v ≤ b.v) :
    Calls Tryz.prog 220 #[adA a, adA b] w (PowPost (b.v - a.v + 1) w) := by
  obtain ⟨h1, h2⟩ := two_new w (adC a) (adC b) 28 28
  have hG : Gd w ((w.alloc (.cells (adC a).toArray 28)).alloc (.cells (adC b).toArray 28)) := ((Gd.refl w).alloc _).alloc _
  have c1 := h1.cell (i := 1) (v := .int .u64 a.hi) rfl
  have c2 := h1.cell (i := 2) (v := .int .u64 a.lo) rfl
  have d1 := h2.cell (i := 1) (v := .int .u64 b.hi) rfl
  have d2 := h2.cell (i := 2) (v := .int .u64 b.lo) rfl
  clear h1 h2
  obtain ⟨L1, e1⟩ : ∃ L1, L1 = (b.lo - a.lo - 0) % 18446744073709551616 := ⟨_, rfl⟩
  obtain ⟨B1, e2⟩ : ∃ B1 : Int, B1 = if b.lo < a.lo + 0 then 1 else 0 := ⟨_, rfl⟩
  obtain ⟨H1, e3⟩ : ∃ H1, H1 = (b.hi - a.hi - B1) % 18446744073709551616 := ⟨_, rfl⟩
  obtain ⟨B2, e3'⟩ : ∃ B2 : Int, B2 = if b.hi < a.hi + B1 then 1 else 0 := ⟨_, rfl⟩
  obtain ⟨L2, e4⟩ : ∃ L2, L2 = (L1 + 1 + 0) % 18446744073709551616 := ⟨_, rfl⟩
  obtain ⟨C, e5⟩ : ∃ C, C = (L1 + 1 + 0) / 18446744073709551616 := ⟨_, rfl⟩
  obtain ⟨H2, e6⟩ : ∃ H2, H2 = (H1 + 0 + C) % 18446744073709551616 := ⟨_, rfl⟩
  obtain ⟨O, e7⟩ : ∃ O, O = (H1 + 0 + C) / 18446744073709551616 := ⟨_, rfl⟩
  have hB1 : B1 = 0 ∨ B1 = 1 := by rw [e2]; split <;> simp
  have r1 := fun w => sub64_run b.lo a.lo 0 hb.2.1 ha.2.1 ha.2.2 (.inl rfl) w
  have r2 := fun w => sub64_run b.hi a.hi B1 hb.1.1 ha.1.1 ha.1.2 hB1 w
  have r3 := fun w => add64_run L1 1 0 (by omega) (by omega) (by omega) (by omega) w
  have r4 := fun w => add64_run H1 0 C (by omega) (by omega) (by omega) (by omega) w
  obtain ⟨g1, g2, g3, g4, g5, g6, g7⟩ := pow_math ha.1 ha.2 hb.1 hb.2 hle e1 e2 e3 e4 e5 e6 e7
  rw [← e1, ← e2] at r1
  rw [← e3, ← e3'] at r2
  rw [← e4, ← e5] at r3
  rw [← e6, ← e7] at r4
  replace g7 : ((b.v - a.v + 1 : Nat) : Int) = _ := g7
  have hS1 : 1 ≤ b.v - a.v + 1 := by omega
  clear e1 e2 e3 e3' e4 e5 e6 e7 hB1 ha hb hle
  generalize b.v - a.v + 1 = S at *
  by_cases hO : O = 0
  · have b0 : (O != 0) = false := by simp [hO]
    by_cases hH : H2 = 0
    · have b1 : (H2 != 0) = false := by simp [hH]
      obtain ⟨k1, k2, k3⟩ := bitLen_spec (x := L2.toNat) (by omega) (by omega)
      have k4 := Lib.bitLen_le L2.toNat 64 (by omega) (by omega)
      have HL := fun W => Lib.hid (Tryz.bits_Len64 L2 W (by omega) (by omega))
      have HS := Lib.hid (show L2.toNat = S by rw [hO, hH] at g7; omega)
      generalize Lib.bitLen L2.toNat = n at *
      have hK := Lib.hid (And.intro k1 k2)
      clear hO hH g7 k1 k2
      go_enter Tryz.func220, Tryz.ntmps220
      go_wp2_with fail
      refine (HL _).out.mono ?_
      rintro e w1 ⟨rfl, rfl⟩
      go_wp2_with fail
      go_ret
      have := hK.out
      rw [HS.out] at this
      exact ⟨n - 1, by omega, ⟨this.1, by rw [show n - 1 + 1 = n by omega]; exact this.2⟩, ret_i64 (by omega), hG⟩
    · have b1 : (H2 != 0) = true := by simp [hH]
      obtain ⟨k1, k2, k3⟩ := bitLen_spec (x := H2.toNat) (by omega) (by omega)
      have k4 := Lib.bitLen_le H2.toNat 64 (by omega) (by omega)
      have HL := fun W => Lib.hid (Tryz.bits_Len64 H2 W (by omega) (by omega))
      have hK := Lib.hid (show IsLog S (63 + Lib.bitLen H2.toNat) by
        rw [hO] at g7
        have h5 : S = H2.toNat * 2 ^ 64 + L2.toNat := by omega
        have h6 : L2.toNat < 2 ^ 64 := by omega
        generalize Lib.bitLen H2.toNat = n at *
        rw [h5]
        exact log_join k1 k2 k3 h6)
      generalize Lib.bitLen H2.toNat = n at *
      clear hO hH g7 k1 k2
      go_enter Tryz.func220, Tryz.ntmps220
      go_wp2_with fail
      refine (HL _).out.mono ?_
      rintro e w1 ⟨rfl, rfl⟩
      go_wp2_with fail
      go_ret
      exact ⟨63 + n, by omega, hK.out, ret_i64 (by omega), hG⟩
  · have b0 : (O != 0) = true := by simp [hO]
    have hK := Lib.hid (show IsLog S 128 by
      unfold IsLog
      rw [show (2 : Nat) ^ 128 = 340282366920938463463374607431768211456 from rfl, show (2 : Nat) ^ (128 + 1) = 680564733841876926926749214863536422912 from rfl]
      omega)
    clear hO g7
    go_enter Tryz.func220, Tryz.ntmps220
    go_wp2_with fail
    go_ret
    exact ⟨128, by omega, hK.out, rfl, hG⟩
end Go.Proofs.YthjhokicojgpbaaGreatDoor
namespace Go.Proofs.YthjhokicojgpbaaGreatDoor
open Go.ChangeShapes Go.WideShapes Go.ChangeAt Go.WideElems Go.RowKit

theorem own : ownKnob Tryz.prog.godebug = none := by kernel_rfl
theorem laidOut : laidOutB Tryz.prog = true := by kernel_rfl

/-- The listed variables. -/
def laidZ : List (String × DataW Unit) := Rows.setsMakeRow.laid
theorem laidZ_plain (w : World) : laidMetH Tryz.prog laidZ w = laidMet Tryz.prog laidZ w := MakeChecks.laidMetH_plain _ _ _ (by kernel_rfl)

/-- One start that fits. -/
theorem laidZ_met (os : Os) (args : Array Value) : laidMetH Tryz.prog laidZ ((World.laidAll Tryz.prog os laidZ).forCall (fun _ _ => 0) ⟨#[], args, []⟩).memory := by
  rw [laidZ_plain]
  exact laidMet_laidAll _ (by kernel_rfl) (by kernel_rfl)

/-- A slice of integers that came in: nil, or a row of 'cap' cells. -/
def IsRow (k : IntKind) (w : World) (a : Option Addr) (len cap : Nat) (zs : List Int) : Prop :=
  (a = none ∧ len = 0 ∧ cap = 0 ∧ zs = []) ∨
  ∃ x, a = some x ∧ len ≤ cap ∧ cap ≤ maxLen ∧ zs.length = cap ∧ (∀ i, i < zs.length → w.cell? (x.add i) = some (.int k (zs.getD i 0))) ∧ ∀ n ∈ zs, (Lit.int k n).wf = true

/-- A stream over it, from which as many numbers can be taken as one likes (below 2^62). -/
theorem str_of_row {w : World} {a : Option Addr} {len cap : Nat} {zs : List Int} (h : IsRow .i64 w a len cap zs) (R : Nat) (hR : R ≤ 4611686018427387904) :
    Str (w.alloc (.cells #[.slice a len cap, .int .i64 0] 25)) w.heap.size R := by
  refine ⟨a, len, cap, 0, zs, by omega, heap_alloc_new w _, ?_⟩
  rcases h with ⟨rfl, rfl, rfl, rfl⟩ | ⟨x, rfl, hl, hm, hz, hcell, hwz⟩
  · exact .inl rfl
  · by_cases h0 : len = 0
    · exact .inl h0
    · obtain ⟨b, off, spot⟩ := x
      have hc := hcell 0 (by omega)
      have hspot : spot = none := by simpa [Addr.add] using World.cell?_spot hc
      subst hspot
      have hb : b < w.heap.size := by
        have := World.block_lt_of_cell? w _ hc
        simpa [Addr.add] using this
      refine .inr ⟨b, off, rfl, hb, hl, hm, fun i hi => ?_⟩
      rw [World.cell?_of_block (w := w) (Below.heap_alloc _ _ _ hb)]
      have := hcell i (by omega)
      rw [Addr.add_lit] at this
      exact this
theorem var_lt {P : Program} {W : World} {n : String} {g : Nat} {cs : Array Value} (hg : P.globalNamed n = some g) (h : W.var? P n = some cs) : g < W.heap.size := by
  unfold World.var? at h
  simp only [hg, Option.bind_some] at h
  rcases Nat.lt_or_ge g W.heap.size with h' | h'
  · exact h'
  · simp [Array.getElem?_eq_none h'] at h

/-- math/bits.deBruijn64tab. -/
def db64 : List Int := [0, 1, 56, 2, 57, 49, 28, 3, 61, 58, 42, 50, 38, 29, 17, 4, 62, 47, 59, 36, 45, 43, 51, 22, 53, 39, 33, 30, 24, 18, 12, 5, 63, 55, 48, 27, 60, 41, 37, 16, 46, 35, 44, 21, 52, 32, 23, 11, 54, 26, 40, 15, 34, 20, 31, 10, 25, 14, 19, 9, 13, 8, 7, 6]

theorem met_of {w : World} {l : List (String × DataW Unit)} (h : laidMetH Tryz.prog l w) (hn : (l.filter fun x => x.2.handleName?.isSome) = []) : laidMet Tryz.prog l w := by
  have := (laidMetH_iff.1 h).1
  have e : (l.filter fun x => x.2.handleName?.isNone) = l := by
    rw [List.filter_eq_self]
    intro x hx
    have := List.filter_eq_nil_iff.1 hn x hx
    simpa using this
  rw [e] at this
  exact this


theorem tz_of_laid {W : World} (h : laidMetH Tryz.prog laidZ W) : Tz W := by
  have h1 := h.filter (fun x => x.1 == "math/bits.deBruijn64tab")
  have e1 : (laidZ.filter fun x => x.1 == "math/bits.deBruijn64tab") = [("math/bits.deBruijn64tab", Lib.tabData .u8 db64)] := by kernel_rfl
  rw [e1] at h1
  have m1 := met_of h1 (by kernel_rfl)
  have g1 : Tryz.prog.globalNamed "math/bits.deBruijn64tab" = some 8 := by kernel_rfl
  have t1 := Lib.tabIs_of_head (n := 64) (t := 270) (e := 5) g1 (by kernel_rfl) Tryz.underlying270 Tryz.underlying5 (by kernel_rfl) (by kernel_rfl) m1
  refine ⟨fun j hj => ?_, var_lt g1 t1⟩
  have hj' : j < 64 := hj
  have c := t1.cell g1 j hj'
  have e : db64.getD j 0 = ((Lib.deBruijn64tab.getD j 0 : Nat) : Int) := (show ∀ j, j < 64 → db64.getD j 0 = ((Lib.deBruijn64tab.getD j 0 : Nat) : Int) by decide +kernel) j hj'
  rw [← e]
  exact c
end Go.Proofs.YthjhokicojgpbaaGreatDoor
