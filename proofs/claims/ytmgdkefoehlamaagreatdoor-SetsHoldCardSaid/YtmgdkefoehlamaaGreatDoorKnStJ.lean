/- Sets: the address behind another one; ranges that touch. -/
import Derived.Test.YtmgdkefoehlamaaGreatDoorKnGzA
import Derived.Test.YtmgdkefoehlamaaGreatDoorKnStG
import Derived.Test.YtmgdkefoehlamaaGreatDoorKnShelf
import Derived.Shelf.Spec.TrailingZeros
import Derived.Shelf.Spec.BitsCarry
import Derived.Test.YtmgdkefoehlamaaGreatDoorKnTxtJ
namespace Go.Proofs.YtmgdkefoehlamaaGreatDoor
open Go.RowKit
set_option linter.unusedVariables false
set_option linter.unusedSimpArgs false

theorem add64_run (x y c : Int) (hx : 0 ≤ x) (hy : 0 ≤ y) (h0 : 0 ≤ c) (h1 : c ≤ 1) (w : World) :
    (callFunc 143 #[.int .u64 x, .int .u64 y, .int .u64 c]).run Tryz.prog w = .ok (.value (.tuple #[.int .u64 ((x + y + c) % 18446744073709551616), .int .u64 ((x + y + c) / 18446744073709551616)])) w := by
  rw [run_callFunc_extern Tryz.func143 (by kernel_rfl) (by kernel_rfl) (by kernel_rfl) (e := add64Entry) (by kernel_rfl), run_add64 x y c hx hy h0 h1]
  rfl
theorem sub64_run (x y b : Int) (hx : 0 ≤ x) (hy : 0 ≤ y) (hyl : y < 18446744073709551616) (h0 : b = 0 ∨ b = 1) (w : World) :
    (callFunc 320 #[.int .u64 x, .int .u64 y, .int .u64 b]).run Tryz.prog w = .ok (.value (.tuple #[.int .u64 ((x - y - b) % 18446744073709551616), .int .u64 (if x < y + b then 1 else 0)])) w := by
  obtain ⟨X, rfl⟩ := Int.eq_ofNat_of_zero_le hx
  obtain ⟨Y, rfl⟩ := Int.eq_ofNat_of_zero_le hy
  obtain ⟨B, rfl⟩ := Int.eq_ofNat_of_zero_le (show 0 ≤ b by omega)
  have e := Go.Proofs.run_sub64 (P := Tryz.prog) X Y B (by omega) w
  rw [run_callFunc_extern Tryz.func320 (by kernel_rfl) (by kernel_rfl) (by kernel_rfl) (e := Go.Proofs.sub64Entry) (by kernel_rfl), e]
  have e1 : (((X + 18446744073709551616 - Y - B) % 18446744073709551616 : Nat) : Int) = ((X : Int) - Y - B) % 18446744073709551616 := by omega
  have e2 : ((if X < Y + B then 1 else 0 : Nat) : Int) = if (X : Int) < (Y : Int) + (B : Int) then 1 else 0 := by
    by_cases h : X < Y + B
    · rw [if_pos h, if_pos (by omega)]; rfl
    · rw [if_neg h, if_neg (by omega)]; rfl
  rw [e1, e2]
  rfl

def Tz (w : World) : Prop := Go.Proofs.TabAt 7 Lib.deBruijn64tab w ∧ 7 < w.heap.size
theorem Tz.below {w w' : World} (h : Tz w) (hb : Below w.heap.size w w') : Tz w' :=
  ⟨fun j hj => (hb.cell (p := ⟨7, j, none⟩) h.2).trans (h.1 j hj), Nat.lt_of_lt_of_le h.2 hb.size⟩
theorem Tz.alloc {w : World} (h : Tz w) (o : Obj) : Tz (w.alloc o) := h.below ((Below.refl _ _).alloc (Nat.le_refl _) _)
theorem Tz.upto {w w' : World} {B : Nat} (h : Tz w) (hb : Below B w w') (hB : 7 < B) : Tz w' :=
  ⟨fun j hj => (hb.cell (p := ⟨7, j, none⟩) hB).trans (h.1 j hj), Nat.lt_of_lt_of_le h.2 hb.size⟩

theorem tz64_zero (w : World) : Calls Tryz.prog 319 #[.int .u64 0] w fun e w' => e = .returned (.int .i64 64) ∧ w = w' := by
  go_enter Tryz.func319, Tryz.ntmps319
  go_wp2
  go_ret
  exact ⟨rfl, rfl⟩
set_option maxHeartbeats 1000000 in
theorem tz64_core (x k idx : Nat) (w : World) (hx0 : ((x : Int) == 0) = false)
    (key : IntKind.u64.wrap (bits BinOp.and IntKind.u64 (x : Int) (IntKind.u64.wrap (-(x : Int))) * 285870213051353865) / 288230376151711744 = (idx : Int))
    (hi : idx < 64) (hk : k < 64) (hcell : w.cell? ⟨7, idx, none⟩ = some (.int .u8 k)) :
    Calls Tryz.prog 319 #[.int .u64 x] w fun e w' => e = .returned (.int .i64 k) ∧ w = w' := by
  go_enter Tryz.func319, Tryz.ntmps319
  go_wp2_with (simp only [key])
  go_ret
  exact ⟨rfl, rfl⟩
theorem tz64_any (x : Int) (w : World) (h0 : 0 ≤ x) (hx : x < 18446744073709551616) (hT : Tz w) :
    Calls Tryz.prog 319 #[.int .u64 x] w fun e w' => e = .returned (.int .i64 (Lib.ctz 64 x.toNat)) ∧ w = w' := by
  obtain ⟨X, rfl⟩ := Int.eq_ofNat_of_zero_le h0
  rw [Int.toNat_natCast]
  by_cases hx0 : X = 0
  · subst hx0
    exact tz64_zero w
  · obtain ⟨hlow, hk⟩ := Lib.lowest_bit 64 X hx0 (by omega)
    obtain ⟨hi, htab⟩ := Lib.deBruijn64_at _ hk
    have hcell := hT.1 _ hi
    rw [htab] at hcell
    exact tz64_core X _ _ w (by simp; omega) (Go.Proofs.tz64_key X _ (by omega) hx0 hlow) hi hk hcell

theorem ctz_spec {x : Nat} (h0 : x ≠ 0) (hx : x < 2 ^ 64) : 2 ^ Lib.ctz 64 x ∣ x ∧ ¬ 2 ^ (Lib.ctz 64 x + 1) ∣ x ∧ Lib.ctz 64 x < 64 := by
  unfold Lib.ctz
  rw [if_neg h0]
  obtain ⟨m, hm, hk⟩ := Lib.ctzFrom_spec 64 x (by omega) hx
  generalize Lib.ctzFrom 64 x = k at *
  refine ⟨⟨_, hm⟩, ?_, hk⟩
  rintro ⟨c, hc⟩
  rw [hm, Nat.pow_succ, Nat.mul_assoc] at hc
  have := Nat.eq_of_mul_eq_mul_left (Nat.two_pow_pos k) hc
  omega
theorem bitLenAux_spec : ∀ (f x : Nat), x < 2 ^ f → 0 < x → 2 ^ (Lib.bitLenAux f x - 1) ≤ x ∧ x < 2 ^ Lib.bitLenAux f x ∧ 1 ≤ Lib.bitLenAux f x
  | 0, x, h, h0 => by simp at h; omega
  | f + 1, x, h, h0 => by
    unfold Lib.bitLenAux
    rw [if_neg (by omega)]
    rcases Nat.eq_zero_or_pos (x / 2) with e | e
    · have : x = 1 := by omega
      subst this
      rw [show (1 : Nat) / 2 = 0 from rfl]
      have : Lib.bitLenAux f 0 = 0 := by cases f <;> simp [Lib.bitLenAux]
      rw [this]; decide
    · obtain ⟨a, b, c⟩ := bitLenAux_spec f (x / 2) (by rw [Nat.pow_succ] at h; omega) e
      refine ⟨?_, ?_, by omega⟩
      · rw [show 1 + Lib.bitLenAux f (x / 2) - 1 = (Lib.bitLenAux f (x / 2) - 1) + 1 by omega, Nat.pow_succ]; omega
      · rw [Nat.add_comm 1, Nat.pow_succ]; omega
theorem bitLen_spec {x : Nat} (h0 : 0 < x) (hx : x < 2 ^ 64) : 2 ^ (Lib.bitLen x - 1) ≤ x ∧ x < 2 ^ Lib.bitLen x ∧ 1 ≤ Lib.bitLen x := bitLenAux_spec 64 x hx h0

def zerosA (a : Ad) : Nat := if a.lo = 0 then 64 + Lib.ctz 64 a.hi.toNat else Lib.ctz 64 a.lo.toNat
theorem zerosA_spec {a : Ad} (h : a.U) : (a.v = 0 ∧ zerosA a = 128) ∨ (2 ^ zerosA a ∣ a.v ∧ ¬ 2 ^ (zerosA a + 1) ∣ a.v ∧ zerosA a < 128) := by
  obtain ⟨⟨h1, h2⟩, ⟨h3, h4⟩⟩ := h
  unfold zerosA Ad.v num
  by_cases hl : a.lo = 0
  · rw [if_pos hl, hl]
    by_cases hh : a.hi = 0
    · left; rw [hh]; exact ⟨rfl, rfl⟩
    · right
      obtain ⟨g1, g2, g3⟩ := ctz_spec (x := a.hi.toNat) (by omega) (by omega)
      generalize Lib.ctz 64 a.hi.toNat = k at *
      rw [show (0 : Int).toNat = 0 from rfl, Nat.add_zero, Nat.pow_add, Nat.mul_comm (2 ^ 64)]
      refine ⟨Nat.mul_dvd_mul_right g1 _, ?_, by omega⟩
      rw [show 64 + k + 1 = (k + 1) + 64 by omega, Nat.pow_add]
      intro hd
      exact g2 (Nat.dvd_of_mul_dvd_mul_right (by decide) hd)
  · right
    rw [if_neg hl]
    obtain ⟨g1, g2, g3⟩ := ctz_spec (x := a.lo.toNat) (by omega) (by omega)
    generalize Lib.ctz 64 a.lo.toNat = k at *
    have hd : ∀ j, j ≤ 64 → (2 ^ j ∣ a.hi.toNat * 2 ^ 64 + a.lo.toNat ↔ 2 ^ j ∣ a.lo.toNat) := fun j hj =>
      (Nat.dvd_add_iff_right (Nat.dvd_trans (Nat.pow_dvd_pow 2 hj) (Nat.dvd_mul_left _ _))).symm
    exact ⟨(hd k (by omega)).2 g1, fun h => g2 ((hd (k + 1) (by omega)).1 h), by omega⟩

theorem ctz_le (x : Nat) (hx : x < 2 ^ 64) : Lib.ctz 64 x ≤ 64 := by
  by_cases h : x = 0
  · subst h; decide
  · exact Nat.le_of_lt (ctz_spec h hx).2.2

set_option maxHeartbeats 1000000 in
theorem zeros_any (a : Ad) (w : World) (h : a.U) (hT : Tz w) :
    Calls Tryz.prog 238 #[adA a] w (GivesD (.int .i64 (zerosA a)) w) := by
  obtain ⟨⟨h1, h2⟩, ⟨h3, h4⟩⟩ := h
  have hB := Blk.new w (adC a) 38
  have hT1 := hT.alloc (.cells (adC a).toArray 38)
  have c1 := hB.cell (i := 1) (v := .int .u64 a.hi) rfl
  have c2 := hB.cell (i := 2) (v := .int .u64 a.lo) rfl
  have hG : Gd w (w.alloc (.cells (adC a).toArray 38)) := (Gd.refl w).alloc _
  have hle := ctz_le a.hi.toNat (by omega)
  by_cases hl : a.lo = 0
  · have HR := Lib.hid (show ((zerosA a : Nat) : Int) = 64 + (Lib.ctz 64 a.hi.toNat : Nat) by unfold zerosA; rw [if_pos hl]; omega)
    have H1 := Lib.hid (tz64_any a.hi _ h1 h2 hT1)
    have b0 : (a.lo != 0) = false := by simp [hl]
    generalize Lib.ctz 64 a.hi.toNat = k at *
    clear hl hT hT1 hB
    go_enter Tryz.func238, Tryz.ntmps238
    go_wp2_with fail
    refine H1.out.mono ?_
    rintro e w1 ⟨rfl, rfl⟩
    go_wp2_with fail
    go_ret
    exact ⟨ret_i64 HR.out.symm, hG⟩
  · have HR := Lib.hid (show ((zerosA a : Nat) : Int) = (Lib.ctz 64 a.lo.toNat : Nat) by unfold zerosA; rw [if_neg hl])
    have H1 := Lib.hid (tz64_any a.lo _ h3 h4 hT1)
    have b0 : (a.lo != 0) = true := by simp [hl]
    clear hl hT hT1 hB
    go_enter Tryz.func238, Tryz.ntmps238
    go_wp2_with fail
    refine H1.out.mono ?_
    rintro e w1 ⟨rfl, rfl⟩
    go_wp2_with fail
    go_ret
    exact ⟨ret_i64 HR.out.symm, hG⟩

def IsLog (S p : Nat) : Prop := 2 ^ p ≤ S ∧ S < 2 ^ (p + 1)
theorem mul_join {a b h l K : Nat} (k1 : a ≤ h) (k2 : h < b) (hl : l < K) : a * K ≤ h * K + l ∧ h * K + l < b * K := by
  have h1 := Nat.mul_le_mul_right K k1
  have h2 := Nat.mul_le_mul_right K (Nat.succ_le_of_lt k2)
  rw [Nat.succ_mul] at h2
  omega
theorem log_join {h l n : Nat} (k1 : 2 ^ (n - 1) ≤ h) (k2 : h < 2 ^ n) (k3 : 1 ≤ n) (hl : l < 2 ^ 64) : IsLog (h * 2 ^ 64 + l) (63 + n) := by
  have := mul_join k1 k2 hl
  unfold IsLog
  rw [show 63 + n = (n - 1) + 64 by omega, show n - 1 + 64 + 1 = n + 64 by omega, Nat.pow_add, Nat.pow_add]
  exact this
def PowPost (S : Nat) (w : World) (e : Ending) (w' : World) : Prop := ∃ p : Nat, p ≤ 128 ∧ IsLog S p ∧ e = .returned (.int .i64 (p : Int)) ∧ Gd w w'

theorem pow_math {ah al bh bl L1 B1 H1 L2 C H2 O : Int} (a1 : U64 ah) (a2 : U64 al) (b1 : U64 bh) (b2 : U64 bl) (hle : num ah al ≤ num bh bl)
    (e1 : L1 = (bl - al - 0) % 18446744073709551616) (e2 : B1 = if bl < al + 0 then 1 else 0) (e3 : H1 = (bh - ah - B1) % 18446744073709551616)
    (e4 : L2 = (L1 + 1 + 0) % 18446744073709551616) (e5 : C = (L1 + 1 + 0) / 18446744073709551616) (e6 : H2 = (H1 + 0 + C) % 18446744073709551616) (e7 : O = (H1 + 0 + C) / 18446744073709551616) :
    0 ≤ L2 ∧ L2 < 18446744073709551616 ∧ 0 ≤ H2 ∧ H2 < 18446744073709551616 ∧ 0 ≤ O ∧ O ≤ 1 ∧ ((num bh bl - num ah al + 1 : Nat) : Int) = O * 340282366920938463463374607431768211456 + H2 * 18446744073709551616 + L2 := by
  unfold num U64 at *
  have hB : (B1 = 1 ∧ bl < al) ∨ (B1 = 0 ∧ al ≤ bl) := by
    by_cases h : bl < al + 0
    · rw [if_pos h] at e2; exact .inl ⟨e2, by omega⟩
    · rw [if_neg h] at e2; exact .inr ⟨e2, by omega⟩
  clear e2
  omega

set_option maxHeartbeats 4000000 in
theorem power_any (a b : Ad) (w : World) (ha : a.U) (hb : b.U) (hle : a.v ≤ b.v) :
    Calls Tryz.prog 239 #[adA a, adA b] w (PowPost (b.v - a.v + 1) w) := by
  obtain ⟨h1, h2⟩ := two_new w (adC a) (adC b) 38 38
  have hG : Gd w ((w.alloc (.cells (adC a).toArray 38)).alloc (.cells (adC b).toArray 38)) := ((Gd.refl w).alloc _).alloc _
  have c1 := h1.cell (i := 1) (v := .int .u64 a.hi) rfl
  have c2 := h1.cell (i := 2) (v := .int .u64 a.lo) rfl
  have d1 := h2.cell (i := 1) (v := .int .u64 b.hi) rfl
  have d2 := h2.cell (i := 2) (v := .int .u64 b.lo) rfl
  clear h1 h2
  obtain ⟨L1, e1⟩ : ∃ L1, L1 = (b.lo - a.lo - 0) % 18446744073709551616 := ⟨_, rfl⟩
  obtain ⟨B1, e2⟩ : ∃ B1 : Int, B1 = if b.lo < a.lo + 0 then 1 else 0 := ⟨_, rfl⟩
  obtain ⟨H1, e3⟩ : ∃ H1, H1 = (b.hi - a.hi - B1) % 18446744073709551616 := ⟨_, rfl⟩
  obtain ⟨B2, e3'⟩ : ∃ B2 : Int, B2 = if b.hi < a.hi + B1 then 1 else 0 := ⟨_, rfl⟩
  obtain ⟨L2, e4⟩ : ∃ L2, L2 = (L1 + 1 + 0) % 18446744073709551616 := ⟨_, rfl⟩
  obtain ⟨C, e5⟩ : ∃ C, C = (L1 + 1 + 0) / 18446744073709551616 := ⟨_, rfl⟩
  obtain ⟨H2, e6⟩ : ∃ H2, H2 = (H1 + 0 + C) % 18446744073709551616 := ⟨_, rfl⟩
  obtain ⟨O, e7⟩ : ∃ O, O = (H1 + 0 + C) / 18446744073709551616 := ⟨_, rfl⟩
  have hB1 : B1 = 0 ∨ B1 = 1 := by rw [e2]; split <;> simp
  have r1 := fun w => sub64_run b.lo a.lo 0 hb.2.1 ha.2.1 ha.2.2 (.inl rfl) w
  have r2 := fun w => sub64_run b.hi a.hi B1 hb.1.1 ha.1.1 ha.1.2 hB1 w
  have r3 := fun w => add64_run L1 1 0 (by omega) (by omega) (by omega) (by omega) w
  have r4 := fun w => add64_run H1 0 C (by omega) (by omega) (by omega) (by omega) w
  obtain ⟨g1, g2, g3, g4, g5, g6, g7⟩ := pow_math ha.1 ha.2 hb.1 hb.2 hle e1 e2 e3 e4 e5 e6 e7
  rw [← e1, ← e2] at r1
  rw [← e3, ← e3'] at r2
  rw [← e4, ← e5] at r3
  rw [← e6, ← e7] at r4
  replace g7 : ((b.v - a.v + 1 : Nat) : Int) = _ := g7
  have hS1 : 1 ≤ b.v - a.v + 1 := by omega
  clear e1 e2 e3 e3' e4 e5 e6 e7 hB1 ha hb hle
  generalize b.v - a.v + 1 = S at *
  by_cases hO : O = 0
  · have b0 : (O != 0) = false := by simp [hO]
    by_cases hH : H2 = 0
    · have b1 : (H2 != 0) = false := by simp [hH]
      obtain ⟨k1, k2, k3⟩ := bitLen_spec (x := L2.toNat) (by omega) (by omega)
      have k4 := Lib.bitLen_le L2.toNat 64 (by omega) (by omega)
      have HL := fun W => Lib.hid (Tryz.bits_Len64 L2 W (by omega) (by omega))
      have HS := Lib.hid (show L2.toNat = S by rw [hO, hH] at g7; omega)
      generalize Lib.bitLen L2.toNat = n at *
      have hK := Lib.hid (And.intro k1 k2)
      clear hO hH g7 k1 k2
      go_enter Tryz.func239, Tryz.ntmps239
      go_wp2_with fail
      refine (HL _).out.mono ?_
      rintro e w1 ⟨rfl, rfl⟩
      go_wp2_with fail
      go_ret
      have := hK.out
      rw [HS.out] at this
      exact ⟨n - 1, by omega, ⟨this.1, by rw [show n - 1 + 1 = n by omega]; exact this.2⟩, ret_i64 (by omega), hG⟩
    · have b1 : (H2 != 0) = true := by simp [hH]
      obtain ⟨k1, k2, k3⟩ := bitLen_spec (x := H2.toNat) (by omega) (by omega)
      have k4 := Lib.bitLen_le H2.toNat 64 (by omega) (by omega)
      have HL := fun W => Lib.hid (Tryz.bits_Len64 H2 W (by omega) (by omega))
      have hK := Lib.hid (show IsLog S (63 + Lib.bitLen H2.toNat) by
        rw [hO] at g7
        have h5 : S = H2.toNat * 2 ^ 64 + L2.toNat := by omega
        have h6 : L2.toNat < 2 ^ 64 := by omega
        generalize Lib.bitLen H2.toNat = n at *
        rw [h5]
        exact log_join k1 k2 k3 h6)
      generalize Lib.bitLen H2.toNat = n at *
      clear hO hH g7 k1 k2
      go_enter Tryz.func239, Tryz.ntmps239
      go_wp2_with fail
      refine (HL _).out.mono ?_
      rintro e w1 ⟨rfl, rfl⟩
      go_wp2_with fail
      go_ret
      exact ⟨63 + n, by omega, hK.out, ret_i64 (by omega), hG⟩
  · have b0 : (O != 0) = true := by simp [hO]
    have hK := Lib.hid (show IsLog S 128 by
      unfold IsLog
      rw [show (2 : Nat) ^ 128 = 340282366920938463463374607431768211456 from rfl, show (2 : Nat) ^ (128 + 1) = 680564733841876926926749214863536422912 from rfl]
      omega)
    clear hO g7
    go_enter Tryz.func239, Tryz.ntmps239
    go_wp2_with fail
    go_ret
    exact ⟨128, by omega, hK.out, rfl, hG⟩
end Go.Proofs.YtmgdkefoehlamaaGreatDoor
namespace Go.Proofs.YtmgdkefoehlamaaGreatDoor
open Go.RowKit
set_option linter.unusedVariables false
set_option linter.unusedSimpArgs false

theorem last_ad {p : Pf} (h : p.R) : (⟨p.1.s, ((fil p.1.v (freeB p) / 2 ^ 64 : Nat) : Int), ((fil p.1.v (freeB p) % 2 ^ 64 : Nat) : Int)⟩ : Ad) = adOf (p.1.n + 2 ^ freeB p - 1) := by
  have hv : fil p.1.v (freeB p) < 2 ^ 128 := fil_lt h.free_le.1 h.1.1.v_lt
  have hpos := Nat.two_pow_pos (freeB p)
  have hok := h.blk_ok.2
  unfold OkB OkX blk at hok
  simp only at hok
  refine Ad.ext' (u64_halves _ hv) (adOf_U _) ?_
  rw [adOf_n (by omega)]
  show s2n p.1.s + num _ _ = _
  rw [num_of_halves _ hv, fil_blk h]
  unfold Ad.n
  omega
def rgP (p : Pf) : Ad × Ad := (p.1, adOf (p.1.n + 2 ^ freeB p - 1))
theorem rangeOf_R (p : Pf) (w : World) (h : p.R) : Calls Tryz.prog 81 #[pfA p] w (GivesV (rgA (rgP p)) w) := by
  obtain ⟨⟨h1, h2⟩, ⟨h3, h4⟩⟩ := h.1.1
  have := rangeOf_any p.1.s p.1.hi p.1.lo p.2 w h1 h2 h3 h4 h.2.1 h.2.2.1
  have e : rangeV p.1.s p.1.hi p.1.lo p.2 = rgA (rgP p) := by
    unfold rgP
    rw [← last_ad h]
    rfl
  rwa [e] at this

def topN (s : Bool) : Nat := s2n s + (2 ^ (lenZ s).toNat - 1)
theorem topN_true : topN true = 2 ^ 129 - 1 := by show 2 ^ 128 + (2 ^ 128 - 1) = _; omega
theorem topN_false : topN false = 2 ^ 32 - 1 := by show 0 + (2 ^ 32 - 1) = _; omega
def allP (s : Bool) : Pf := (⟨s, 0, 0⟩, 0)
theorem allP_R (s : Bool) : (allP s).R := by
  cases s
  · exact ⟨⟨⟨⟨by decide, by decide⟩, ⟨by decide, by decide⟩⟩, fun _ => by decide⟩, by decide, by decide, by decide⟩
  · refine ⟨⟨⟨⟨by decide, by decide⟩, ⟨by decide, by decide⟩⟩, fun h => by cases h⟩, by decide, by decide, ?_⟩
    apply dvd_clr
    exact Nat.dvd_zero _
theorem allP_n (s : Bool) : (allP s).1.n = s2n s ∧ freeB (allP s) = (lenZ s).toNat := by
  constructor
  · unfold Ad.n; show s2n s + num 0 0 = _; rw [show num 0 0 = 0 from rfl]; omega
  · unfold freeB; show (lenZ s - 0).toNat = _; rw [Int.sub_zero]
theorem rgP_all (s : Bool) : rgP (allP s) = (⟨s, 0, 0⟩, adOf (topN s)) := by
  obtain ⟨e1, e2⟩ := allP_n s
  have := Nat.two_pow_pos (lenZ s).toNat
  unfold rgP topN
  rw [e1, e2, show s2n s + 2 ^ (lenZ s).toNat - 1 = s2n s + (2 ^ (lenZ s).toNat - 1) by omega]
  rfl

@[go_sem] theorem run_field_rg0 (x : Ad × Ad) (w : World) : (Instr.field 53 (.agg (rgC x).toArray) 0).run Tryz.prog w = .ok (.agg (adC x.1).toArray) w := by
  obtain ⟨⟨a, b, c⟩, ⟨d, e, f⟩⟩ := x
  kernel_rfl
@[go_sem] theorem run_field_rg1 (x : Ad × Ad) (w : World) : (Instr.field 53 (.agg (rgC x).toArray) 1).run Tryz.prog w = .ok (.agg (adC x.2).toArray) w := by
  obtain ⟨⟨a, b, c⟩, ⟨d, e, f⟩⟩ := x
  kernel_rfl

set_option maxHeartbeats 1000000 in
theorem whole_any (s : Bool) (w : World) : Calls Tryz.prog 240 #[.bool s] w (GivesV (rgA (⟨s, 0, 0⟩, adOf (topN s))) w) := by
  have HR := fun w' => Lib.hid (rangeOf_R (allP s) w' (allP_R s))
  rw [rgP_all] at HR
  have hR := Blk.new w [.bool false, .int .u64 0, .int .u64 0, .bool false, .int .u64 0, .int .u64 0] 53
  have hG : Below w.heap.size w (w.alloc (.cells #[.bool false, .int .u64 0, .int .u64 0, .bool false, .int .u64 0, .int .u64 0] 53)) := (Below.refl _ _).alloc (Nat.le_refl _) _
  have B1 := fun w' => run_build (P := Tryz.prog) w' 38 #[(0, .bool s)] (adC ⟨s, 0, 0⟩).toArray (by kernel_rfl)
  have B2 := fun w' => run_build (P := Tryz.prog) w' 40 #[(0, .agg (adC ⟨s, 0, 0⟩).toArray)] (pfC (allP s)).toArray (by kernel_rfl)
  generalize adOf (topN s) = T at *
  obtain ⟨x, hx⟩ : ∃ x : Ad × Ad, x = (⟨s, 0, 0⟩, T) := ⟨_, rfl⟩
  rw [← hx] at HR ⊢
  clear hx
  go_enter Tryz.func240, Tryz.ntmps240
  go_wp2_with fail
  refine (HR _).out.mono ?_
  rintro e w1 ⟨rfl, hb1⟩
  have hR1 := hR.below hb1
  have S1 := stT_row rowRg hR1 rfl (rgC_len x) (rgC_one x)
  have hG1 := hG.trans (hb1.mono hG.size)
  go_wp2_with fail
  have hx : w1.heap[w.heap.size]? = _ := hR1
  refine bodyPost_ret (v := rgA x) (results_cell_row rfl _ _ w.heap.size _ _ (0, 0) _ rfl (setRow_heap w1 w.heap.size _ _ _ _ hR1) Tryz.underlying53 rfl (by rw [rowRg.size]; rfl)) rfl ⟨rfl, ?_⟩
  exact hG1.trans ⟨rfl, rfl, rfl, by simp, fun k hk => setRow_other _ _ _ _ (by omega)⟩

theorem results_cell_tmp_row {fn : Func} {p u : Tmp} {ty : TypeId} {k : Nat} (T : RowT ty k) (h : fn.results = #[.cell p ty, .tmp u]) (tmps : Array Value) (w : World) (g : Nat) (t : TypeId) (cs : List Value) (x : Value)
    (hp : tmps.getD p undef = .pointer (some ⟨g, 0, none⟩)) (hx : tmps.getD u undef = x) (hg : Blk w g cs t) (hl : cs.length = k) :
    (results fn tmps).run Tryz.prog w = .ok (.tuple #[.agg cs.toArray, x]) w := by
  obtain ⟨d, hu, hd⟩ := T.row
  rw [results_cell_tmp h, hp, hx]
  have := run_loadVar_mid (P := Tryz.prog) w g 0 ty cs d (hg.range 0 cs [] (by simp)) hu hd (by rw [T.size, hl])
  simp [asAddr, this, Result.andThen]
theorem Blk.row {w : World} {p : Nat} {old : List Value} {t : TypeId} (h : Blk w p old t) (cs : List Value) : Blk (w.setRow p cs.toArray) p cs t := setRow_heap w p _ _ _ _ h
theorem below_row {w w' : World} {B p : Nat} (h : Below B w w') (hp : B ≤ p) (cs : Array Value) : Below B w (w'.setRow p cs) :=
  h.trans ⟨rfl, rfl, rfl, by simp, fun k hk => setRow_other _ _ _ _ (by omega)⟩

def adE (a b : Ad) : Bool := adQ a.s b.s a.hi a.lo b.hi b.lo
@[go_sem] theorem run_eqAdA (x y : Operand) (a b : Ad) (w : World) : (eqAd x y (.agg (adC a).toArray) (.agg (adC b).toArray)).run Tryz.prog w = .ok (.value (.bool (adE a b))) w :=
  run_eqAd x y a.s b.s a.hi a.lo b.hi b.lo w
theorem adE_iff {a b : Ad} (ha : a.U) (hb : b.U) : adE a b = decide (a.n = b.n) := by
  unfold adE adQ
  rw [Bool.eq_iff_iff]
  simp only [Bool.and_eq_true, beq_iff_eq, decide_eq_true_eq]
  constructor
  · rintro ⟨h1, h2, h3⟩
    obtain ⟨s, hi, lo⟩ := a
    obtain ⟨t, h, l⟩ := b
    simp only at h1 h2 h3
    subst h1; subst h2; subst h3; rfl
  · intro h
    have := Ad.ext' ha hb h
    subst this
    exact ⟨rfl, rfl, rfl⟩
theorem Ad.R.le_top {a : Ad} (h : a.R) : a.n ≤ topN a.s := by
  rcases h.six with ⟨h1, h2, h3⟩ | ⟨h1, h2, h3⟩
  · rw [h1, topN_false]; omega
  · rw [h1, topN_true]; omega
theorem topN_lt (s : Bool) : topN s < 2 ^ 129 := by
  cases s
  · rw [topN_false]; omega
  · rw [topN_true]; omega
theorem adOf_top (s : Bool) : (adOf (topN s)).n = topN s := adOf_n (topN_lt s)
def nextV (a : Ad) : Value := if a.n = topN a.s then .tuple #[.agg #[.bool false, .int .u64 0, .int .u64 0], .bool false] else .tuple #[.agg (adC (adOf (a.n + 1))).toArray, .bool true]
theorem next_step {a : Ad} (h : a.R) (hne : a.n ≠ topN a.s) : (a.lo < 18446744073709551615 → adOf (a.n + 1) = ⟨a.s, a.hi, a.lo + 1⟩) ∧ (¬ a.lo < 18446744073709551615 → a.lo = 18446744073709551615 ∧ a.hi < 18446744073709551615 ∧ adOf (a.n + 1) = ⟨a.s, a.hi + 1, 0⟩) := by
  have hlt := h.1.n_lt
  have hle := h.le_top
  have htop : topN a.s < 2 ^ 129 := topN_lt _
  obtain ⟨⟨h1, h2⟩, ⟨h3, h4⟩⟩ := h.1
  constructor
  · intro hl
    refine Ad.ext' (adOf_U _) ⟨⟨h1, h2⟩, ⟨by show 0 ≤ a.lo + 1; omega, by show a.lo + 1 < _; omega⟩⟩ ?_
    rw [adOf_n (by omega)]
    unfold Ad.n Ad.v num
    simp only
    omega
  · intro hl
    have hlo : a.lo = 18446744073709551615 := by omega
    have hhi : a.hi < 18446744073709551615 := by
      rcases Int.lt_or_le a.hi 18446744073709551615 with g | g
      · exact g
      · exfalso
        have hh : a.hi = 18446744073709551615 := by omega
        apply hne
        rcases h.six with ⟨k1, k2, k3⟩ | ⟨k1, k2, k3⟩
        · unfold Ad.v num at k2; rw [hh, hlo] at k2; omega
        · rw [k1, topN_true, k2]; unfold Ad.v num; rw [hh, hlo]; decide
    refine ⟨hlo, hhi, Ad.ext' (adOf_U _) ⟨⟨by show 0 ≤ a.hi + 1; omega, by show a.hi + 1 < _; omega⟩, ⟨by show (0 : Int) ≤ 0; omega, by show (0 : Int) < _; omega⟩⟩ ?_⟩
    rw [adOf_n (by omega)]
    unfold Ad.n Ad.v num
    simp only
    rw [hlo]
    omega

set_option maxHeartbeats 4000000 in
theorem nextA_any (a : Ad) (w : World) (h : a.R) : Calls Tryz.prog 154 #[adA a] w (GivesV (nextV a) w) := by
  have HW := fun w' => Lib.hid (whole_any a.s w')
  have hE : adE a (adOf (topN a.s)) = decide (a.n = topN a.s) := by rw [adE_iff h.1 (adOf_U _), adOf_top]
  obtain ⟨h1, h2⟩ := two_new w (adC a) [.bool false, .int .u64 0, .int .u64 0] 38 38
  have hG := below_two w (.cells (adC a).toArray 38) (.cells #[.bool false, .int .u64 0, .int .u64 0] 38)
  have hB := gb_refl ((w.alloc (.cells (adC a).toArray 38)).alloc (.cells #[.bool false, .int .u64 0, .int .u64 0] 38)) none
  have hst := next_step h
  obtain ⟨⟨g1, g2⟩, ⟨g3, g4⟩⟩ := h.1
  generalize adOf (topN a.s) = T at *
  by_cases ht : a.n = topN a.s
  · have HV := Lib.hid (show nextV a = _ from if_pos ht)
    have b9 : adE a T = true := by rw [hE]; exact decide_eq_true ht
    clear hE hst ht
    have B1 := fun w' => run_build (P := Tryz.prog) w' 38 #[] #[.bool false, .int .u64 0, .int .u64 0] (by kernel_rfl)
    go_enter Tryz.func154, Tryz.ntmps154
    go_wp2_with fail
    refine wx_begin (none) [] (by kernel_rfl) (fun u0 hb0' hz0' => ?_)
    replace hB := gb_trans hB (gbB hb0')
    clear hb0' hz0'
    refine wx_take (i := 0) (d := some 4) (v := ?_) (by simp only [gzA, gzB, gzC] <;> rfl) (by rfl) (by kernel_rfl) (by kernel_rfl) (by kernel_rfl) (fun _ _ _ h => h) (by rfl) (by kernel_rfl) ?_ ?_
    rotate_left
    · ((intro u hu); have k1 := h1.gn (gb_trans hB hu); have l1 := k1.ld rowAd rfl; have q0 := k1.cell (i := 0) (v := .bool a.s) rfl; clear k1; go_simp; try with_reducible rfl)
    try simp only [Act.put, gzD, gzE, gzF]
    refine wx_pure (i := 1) (d := some 5) (v := ?_) (by simp only [gzA, gzB, gzC] <;> rfl) (by rfl) (by kernel_rfl) (by kernel_rfl) (by kernel_rfl) (fun _ _ _ h => h) (by rfl) ?_ ?_
    rotate_left
    · ((intro u); go_simp; try with_reducible rfl)
    try simp only [Act.put, gzD, gzE, gzF]
    refine wx_take (i := 2) (d := some 6) (v := ?_) (by simp only [gzA, gzB, gzC] <;> rfl) (by rfl) (by kernel_rfl) (by kernel_rfl) (by kernel_rfl) (fun _ _ _ h => h) (by rfl) (by kernel_rfl) ?_ ?_
    rotate_left
    · ((intro u hu); have k1 := h1.gn (gb_trans hB hu); have l1 := k1.ld rowAd rfl; have q0 := k1.cell (i := 0) (v := .bool a.s) rfl; clear k1; go_simp; try with_reducible rfl)
    try simp only [Act.put, gzD, gzE, gzF]
    refine wx_one (i := 3) (by simp only [gzA, gzB, gzC] <;> rfl) (by kernel_rfl) (by rfl) (fun K hK => ?_)
    go_simp
    refine (HW _).out.mono ?_
    rintro e u1 ⟨rfl, hv1⟩
    refine hK _ _ (gbB hv1) ?_
    replace hB := gb_trans hB (gbB hv1)
    clear hK K hv1
    try simp only [Act.put, gzD, gzE, gzF]
    refine wx_pure (i := 4) (d := some 8) (v := ?_) (by simp only [gzA, gzB, gzC] <;> rfl) (by rfl) (by kernel_rfl) (by kernel_rfl) (by kernel_rfl) (fun _ _ _ h => h) (by rfl) ?_ ?_
    rotate_left
    · ((intro u); go_simp; try with_reducible rfl)
    try simp only [Act.put, gzD, gzE, gzF]
    refine wx_pure (i := 5) (d := some 9) (v := ?_) (by simp only [gzA, gzB, gzC] <;> rfl) (by rfl) (by kernel_rfl) (by kernel_rfl) (by kernel_rfl) (fun _ _ _ h => h) (by rfl) ?_ ?_
    rotate_left
    · ((intro u); go_simp; try with_reducible rfl)
    try simp only [Act.put, gzD, gzE, gzF]
    refine wx_done (by kernel_rfl) ?_ _
    have hW := (hG.trans ((gb2B hB).mono hG.size))
    have k2 := h2.gn hB
    have S1 := stT_row rowAd k2 rfl (show [Value.bool false, .int .u64 0, .int .u64 0].length = 3 from rfl) (by intro v hv; simp at hv; rcases hv with rfl | rfl | rfl <;> rfl)
    go_wp2_with fail
    have hz : w.heap.size ≤ w.heap.size + 1 := by omega
    refine bodyPost_ret (v := .tuple #[.agg #[.bool false, .int .u64 0, .int .u64 0], .bool false]) ?_ rfl ⟨by rw [HV.out], hW.trans ⟨rfl, rfl, rfl, by simp, fun k hk => setRow_other _ _ _ _ (by omega)⟩⟩
    exact results_cell_tmp_row rowAd rfl _ _ _ _ _ _ rfl rfl (k2.row _) rfl
  · have HV := Lib.hid (show nextV a = _ from if_neg ht)
    have b9 : adE a T = false := by rw [hE]; exact decide_eq_false ht
    obtain ⟨st1, st2⟩ := hst ht
    clear hE hst ht
    by_cases hl : a.lo < 18446744073709551615
    · replace st1 := Lib.hid (st1 hl)
      have b17 : (a.lo + 1 == 0) = false := by simp; omega
      clear st2
      go_enter Tryz.func154, Tryz.ntmps154
      go_wp2_with fail
      refine wx_begin (none) [] (by kernel_rfl) (fun u0 hb0' hz0' => ?_)
      replace hB := gb_trans hB (gbB hb0')
      clear hb0' hz0'
      refine wx_take (i := 0) (d := some 4) (v := ?_) (by simp only [gzA, gzB, gzC] <;> rfl) (by rfl) (by kernel_rfl) (by kernel_rfl) (by kernel_rfl) (fun _ _ _ h => h) (by rfl) (by kernel_rfl) ?_ ?_
      rotate_left
      · ((intro u hu); have k1 := h1.gn (gb_trans hB hu); have l1 := k1.ld rowAd rfl; have q0 := k1.cell (i := 0) (v := .bool a.s) rfl; clear k1; go_simp; try with_reducible rfl)
      try simp only [Act.put, gzD, gzE, gzF]
      refine wx_pure (i := 1) (d := some 5) (v := ?_) (by simp only [gzA, gzB, gzC] <;> rfl) (by rfl) (by kernel_rfl) (by kernel_rfl) (by kernel_rfl) (fun _ _ _ h => h) (by rfl) ?_ ?_
      rotate_left
      · ((intro u); go_simp; try with_reducible rfl)
      try simp only [Act.put, gzD, gzE, gzF]
      refine wx_take (i := 2) (d := some 6) (v := ?_) (by simp only [gzA, gzB, gzC] <;> rfl) (by rfl) (by kernel_rfl) (by kernel_rfl) (by kernel_rfl) (fun _ _ _ h => h) (by rfl) (by kernel_rfl) ?_ ?_
      rotate_left
      · ((intro u hu); have k1 := h1.gn (gb_trans hB hu); have l1 := k1.ld rowAd rfl; have q0 := k1.cell (i := 0) (v := .bool a.s) rfl; clear k1; go_simp; try with_reducible rfl)
      try simp only [Act.put, gzD, gzE, gzF]
      refine wx_one (i := 3) (by simp only [gzA, gzB, gzC] <;> rfl) (by kernel_rfl) (by rfl) (fun K hK => ?_)
      go_simp
      refine (HW _).out.mono ?_
      rintro e u1 ⟨rfl, hv1⟩
      refine hK _ _ (gbB hv1) ?_
      replace hB := gb_trans hB (gbB hv1)
      clear hK K hv1
      try simp only [Act.put, gzD, gzE, gzF]
      refine wx_pure (i := 4) (d := some 8) (v := ?_) (by simp only [gzA, gzB, gzC] <;> rfl) (by rfl) (by kernel_rfl) (by kernel_rfl) (by kernel_rfl) (fun _ _ _ h => h) (by rfl) ?_ ?_
      rotate_left
      · ((intro u); go_simp; try with_reducible rfl)
      try simp only [Act.put, gzD, gzE, gzF]
      refine wx_pure (i := 5) (d := some 9) (v := ?_) (by simp only [gzA, gzB, gzC] <;> rfl) (by rfl) (by kernel_rfl) (by kernel_rfl) (by kernel_rfl) (fun _ _ _ h => h) (by rfl) ?_ ?_
      rotate_left
      · ((intro u); go_simp; try with_reducible rfl)
      try simp only [Act.put, gzD, gzE, gzF]
      refine wx_done (by kernel_rfl) ?_ _
      have hW := (hG.trans ((gb2B hB).mono hG.size))
      have k1 := h1.gn hB
      have k2 := h2.gn hB
      have c2 := k1.cell (i := 2) (v := .int .u64 a.lo) rfl
      have f2 := k1.free 2
      have k1' := k1.set 2 (.int .u64 (a.lo + 1))
      have k2' := k2.other (a := ⟨w.heap.size, 2, none⟩) (by simp) (.int .u64 (a.lo + 1))
      have e1 : (adC a).set 2 (.int .u64 (a.lo + 1)) = adC (adOf (a.n + 1)) := by rw [st1.out]; rfl
      rw [e1] at k1'
      have L1 := k1'.ld rowAd rfl
      have S1 := stT_row rowAd k2' rfl (adC_len (adOf (a.n + 1))) (adC_one _)
      go_wp2_with fail
      refine bodyPost_ret (v := .tuple #[.agg (adC (adOf (a.n + 1))).toArray, .bool true]) ?_ rfl ⟨by rw [HV.out], (hW.setCell (p := ⟨w.heap.size, 2, none⟩) (Nat.le_refl _) _).trans ⟨rfl, rfl, rfl, by simp, fun k hk => setRow_other _ _ _ _ (by omega)⟩⟩
      exact results_cell_tmp_row rowAd rfl _ _ _ _ _ _ rfl rfl (k2'.row _) rfl
    · obtain ⟨st3, st4, st5⟩ := st2 hl
      replace st5 := Lib.hid st5
      have w1 : IntKind.u64.wrap (a.lo + 1) = 0 := by rw [IntKind.wrap_u64, st3]; decide
      have w2 : IntKind.u64.wrap (a.hi + 1) = a.hi + 1 := by rw [IntKind.wrap_u64]; omega
      clear st1 st2 st3 st4 hl g1 g2 g3 g4
      go_enter Tryz.func154, Tryz.ntmps154
      go_wp2_with fail
      refine wx_begin (none) [] (by kernel_rfl) (fun u0 hb0' hz0' => ?_)
      replace hB := gb_trans hB (gbB hb0')
      clear hb0' hz0'
      refine wx_take (i := 0) (d := some 4) (v := ?_) (by simp only [gzA, gzB, gzC] <;> rfl) (by rfl) (by kernel_rfl) (by kernel_rfl) (by kernel_rfl) (fun _ _ _ h => h) (by rfl) (by kernel_rfl) ?_ ?_
      rotate_left
      · ((intro u hu); have k1 := h1.gn (gb_trans hB hu); have l1 := k1.ld rowAd rfl; have q0 := k1.cell (i := 0) (v := .bool a.s) rfl; clear k1; go_simp; try with_reducible rfl)
      try simp only [Act.put, gzD, gzE, gzF]
      refine wx_pure (i := 1) (d := some 5) (v := ?_) (by simp only [gzA, gzB, gzC] <;> rfl) (by rfl) (by kernel_rfl) (by kernel_rfl) (by kernel_rfl) (fun _ _ _ h => h) (by rfl) ?_ ?_
      rotate_left
      · ((intro u); go_simp; try with_reducible rfl)
      try simp only [Act.put, gzD, gzE, gzF]
      refine wx_take (i := 2) (d := some 6) (v := ?_) (by simp only [gzA, gzB, gzC] <;> rfl) (by rfl) (by kernel_rfl) (by kernel_rfl) (by kernel_rfl) (fun _ _ _ h => h) (by rfl) (by kernel_rfl) ?_ ?_
      rotate_left
      · ((intro u hu); have k1 := h1.gn (gb_trans hB hu); have l1 := k1.ld rowAd rfl; have q0 := k1.cell (i := 0) (v := .bool a.s) rfl; clear k1; go_simp; try with_reducible rfl)
      try simp only [Act.put, gzD, gzE, gzF]
      refine wx_one (i := 3) (by simp only [gzA, gzB, gzC] <;> rfl) (by kernel_rfl) (by rfl) (fun K hK => ?_)
      go_simp
      refine (HW _).out.mono ?_
      rintro e u1 ⟨rfl, hv1⟩
      refine hK _ _ (gbB hv1) ?_
      replace hB := gb_trans hB (gbB hv1)
      clear hK K hv1
      try simp only [Act.put, gzD, gzE, gzF]
      refine wx_pure (i := 4) (d := some 8) (v := ?_) (by simp only [gzA, gzB, gzC] <;> rfl) (by rfl) (by kernel_rfl) (by kernel_rfl) (by kernel_rfl) (fun _ _ _ h => h) (by rfl) ?_ ?_
      rotate_left
      · ((intro u); go_simp; try with_reducible rfl)
      try simp only [Act.put, gzD, gzE, gzF]
      refine wx_pure (i := 5) (d := some 9) (v := ?_) (by simp only [gzA, gzB, gzC] <;> rfl) (by rfl) (by kernel_rfl) (by kernel_rfl) (by kernel_rfl) (fun _ _ _ h => h) (by rfl) ?_ ?_
      rotate_left
      · ((intro u); go_simp; try with_reducible rfl)
      try simp only [Act.put, gzD, gzE, gzF]
      refine wx_done (by kernel_rfl) ?_ _
      have hW := (hG.trans ((gb2B hB).mono hG.size))
      have k1 := h1.gn hB
      have k2 := h2.gn hB
      have c2 := k1.cell (i := 2) (v := .int .u64 a.lo) rfl
      have c1 := k1.cell (i := 1) (v := .int .u64 a.hi) rfl
      have f1 := k1.free 1
      have f2 := k1.free 2
      have k1' := (k1.set 2 (.int .u64 0)).set 1 (.int .u64 (a.hi + 1))
      have k2' := (k2.other (a := ⟨w.heap.size, 2, none⟩) (by simp) (.int .u64 0)).other (a := ⟨w.heap.size, 1, none⟩) (by simp) (.int .u64 (a.hi + 1))
      have e1 : ((adC a).set 2 (.int .u64 0)).set 1 (.int .u64 (a.hi + 1)) = adC (adOf (a.n + 1)) := by rw [st5.out]; rfl
      rw [e1] at k1'
      have L1 := k1'.ld rowAd rfl
      have S1 := stT_row rowAd k2' rfl (adC_len (adOf (a.n + 1))) (adC_one _)
      go_wp2_with fail
      refine bodyPost_ret (v := .tuple #[.agg (adC (adOf (a.n + 1))).toArray, .bool true]) ?_ rfl ⟨by rw [HV.out], ((hW.setCell (p := ⟨w.heap.size, 2, none⟩) (Nat.le_refl _) _).setCell (p := ⟨w.heap.size, 1, none⟩) (Nat.le_refl _) _).trans ⟨rfl, rfl, rfl, by simp, fun k hk => setRow_other _ _ _ _ (by omega)⟩⟩
      exact results_cell_tmp_row rowAd rfl _ _ _ _ _ _ rfl rfl (k2'.row _) rfl
end Go.Proofs.YtmgdkefoehlamaaGreatDoor
