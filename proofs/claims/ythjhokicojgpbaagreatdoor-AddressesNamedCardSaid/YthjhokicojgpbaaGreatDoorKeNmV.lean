/- AddressesNamed: Back and BackTo are as specified for all addresses and names. -/
import Derived.Test.YthjhokicojgpbaaGreatDoorKeNmS
import Derived.Test.YthjhokicojgpbaaGreatDoorKeNmT
import Derived.Test.YthjhokicojgpbaaGreatDoorKeNmU
import Derived.Test.YthjhokicojgpbaaGreatDoorKeLaneC
import Derived.Test.YthjhokicojgpbaaGreatDoorKeWideB
namespace Go.Proofs.YthjhokicojgpbaaGreatDoor
open Go.RowKit
set_option linter.unusedVariables false
set_option linter.unusedSimpArgs false

theorem rightA_nat {s : Bool} {hi lo : Int} (h : RightA s hi lo) : ∃ h' l' : Nat, hi = (h' : Int) ∧ lo = (l' : Int) ∧ RightN s h' l' := by
  obtain ⟨⟨x0, x1⟩, ⟨y0, y1⟩, hs⟩ := h
  obtain ⟨a, rfl⟩ := Int.eq_ofNat_of_zero_le x0
  obtain ⟨b, rfl⟩ := Int.eq_ofNat_of_zero_le y0
  exact ⟨a, b, rfl, rfl, by omega, by omega, fun e => by have := hs e; omega⟩
theorem backName_any {s : Bool} {hi lo : Nat} (h : RightN s hi lo) (w : World) (hT : Tabs w) : Calls Tryz.prog 10 #[adV s (hi : Int) (lo : Int)] w (GivesV (.string ⟨(backL s hi lo).toArray⟩) w) := by
  cases s
  · have e := (h.2.2 rfl).1
    subst e
    exact backName4_any _ lo w hT (h.2.2 rfl).2
  · exact backName6_any hi lo w h.1 h.2.1
theorem toP_zero {l : List UInt8} {v : Value} (h0 : domF l = 0) (h : ToP l v) : ∃ (s : Bool) (hi lo : Int) (b : Bool), v = .tuple #[adV s hi lo, .bool b, .int .i64 0] ∧ ∀ v', RefP l v' → v' = .tuple #[adV s hi lo, .bool b] := by
  rcases h with ⟨h1, _⟩ | ⟨_, ⟨s, hi, lo, hR, hl, rfl⟩ | ⟨hn, rfl⟩⟩
  · exact absurd h0 h1
  · refine ⟨s, hi, lo, true, rfl, fun v' h' => ?_⟩
    rcases h' with ⟨s', hi', lo', hR', hl', rfl⟩ | ⟨hn', _⟩
    · obtain ⟨rfl, rfl, rfl⟩ := backL_inj hR hR' (hl.symm.trans hl')
      rfl
    · exact absurd hl (hn' _ _ _ hR)
  · refine ⟨false, 0, 0, false, rfl, fun v' h' => ?_⟩
    rcases h' with ⟨s', hi', lo', hR', hl', rfl⟩ | ⟨_, rfl⟩
    · exact absurd hl' (hn _ _ _ hR')
    · rfl
theorem toP_fault {l : List UInt8} {v : Value} (h0 : domF l ≠ 0) (h : ToP l v) : v = .tuple #[adV false 0 0, .bool false, .int .i64 (domF l)] := by
  rcases h with ⟨_, h⟩ | ⟨h1, _⟩
  · exact h
  · exact absurd h1 h0
theorem adF_three {s : Bool} {hi lo : Int} (h : adF s hi lo ≠ 0) : adF s hi lo = 3 := by
  unfold adF at *
  split
  · rfl
  · rename_i hn; rw [if_neg hn] at h; exact absurd rfl h

set_option maxHeartbeats 8000000 in
set_option maxRecDepth 100000 in
theorem addressesNamed_walk (a : Option Addr) (len cap : Nat) (w : World) (hC : Cons w) (hs : Str (w.alloc (.cells #[.slice a len cap, .int .i64 0] 25)) w.heap.size 1000) :
    Calls Tryz.prog 3 #[.slice a len cap] w fun e w' => e = .returned (.bool true) ∧ Below w.heap.size w w' := by
  have hB0 : Below w.heap.size w (w.alloc (.cells #[.slice a len cap, .int .i64 0] 25)) := (Below.refl _ _).alloc (Nat.le_refl _) _
  go_enter Tryz.func3, Tryz.ntmps3
  go_wp2_with fail
  refine (raw_any _ _ 980 (hs.le (by omega))).mono ?_
  rintro e w1 ⟨s, hi, lo, ⟨⟨x0, x1⟩, ⟨y0, y1⟩⟩, rfl, hs1, hg1⟩
  obtain ⟨hi, rfl⟩ := Int.eq_ofNat_of_zero_le x0
  obtain ⟨lo, rfl⟩ := Int.eq_ofNat_of_zero_le y0
  have hh : hi < 2 ^ 64 := by omega
  have hlo : lo < 2 ^ 64 := by omega
  have hb : Below w.heap.size w w1 := hB0.trans (gb_toBelow hg1 (Nat.le_refl _) (by simp))
  clear hs hB0 hg1 x0 x1 y0 y1
  have hX := Blk.new w1 [.bool s, .int .u64 (hi : Int), .int .u64 (lo : Int)] 28
  have hbX : Below w1.heap.size w1 (w1.alloc (.cells [.bool s, .int .u64 (hi : Int), .int .u64 (lo : Int)].toArray 28)) := (Below.refl _ _).alloc (Nat.le_refl _) _
  replace hs1 := hs1.below hbX
  replace hb := hb.trans (hbX.mono hb.size)
  clear hbX
  have HBk := Lib.hid (back_any s hi lo _ (hC.below hb).tabs hh hlo)
  have HAF := Lib.hid (fun W => addrFault_any s (hi : Int) (lo : Int) W (by omega))
  obtain ⟨c0, c1, c2, _⟩ := hX.three
  by_cases hr : RightN s hi lo
  · have HBN := Lib.hid (fun W (hW : Below w.heap.size w W) => backName_any hr W (hC.below hW).tabs)
    rw [show backV s hi lo = _ from if_pos hr] at HBk
    rw [(adF_nat hh hlo).2 hr] at HAF
    generalize (⟨(backL s hi lo).toArray⟩ : ByteArray) = T at HBk HBN
    clear hr hh hlo
    go_wp2_with fail
    refine HBk.out.mono ?_
    rintro e w3 ⟨rfl, hb2⟩
    replace hX := hX.below hb2
    replace hs1 := hs1.below hb2
    replace hb := hb.trans (hb2.mono hb.size)
    clear hb2 HBk c0 c1 c2
    obtain ⟨c0, c1, c2, _⟩ := hX.three
    go_wp2_with fail
    refine (HAF.out _).mono ?_
    rintro e w4 ⟨rfl, hb2⟩
    replace hX := hX.below hb2
    replace hs1 := hs1.below hb2
    replace hb := hb.trans (hb2.mono hb.size)
    clear hb2 HAF c0 c1 c2
    obtain ⟨c0, c1, c2, _⟩ := hX.three
    go_wp2_with fail
    refine (HBN.out _ hb).mono ?_
    rintro e w5 ⟨rfl, hb2⟩
    replace hs1 := hs1.below hb2
    replace hb := hb.trans (hb2.mono hb.size)
    clear hb2 HBN c0 c1 c2 hX
    go_wp2_with fail
    refine (addr_any _ _ 960 (hs1.le (by omega))).mono ?_
    rintro e w10 ⟨s', hi', lo', hRA, rfl, hs2, hg2⟩
    obtain ⟨h', l', rfl, rfl, hRN⟩ := rightA_nat hRA
    replace hb : Below w.heap.size w w10 := hb.trans (gb_toBelow hg2 (Nat.le_refl _) (by have := hs1.lt; omega))
    clear hs1 hg2 hRA
    go_wp2_with fail
    refine (backName_any hRN _ (hC.below hb).tabs).mono ?_
    rintro e w11 ⟨rfl, hb2⟩
    have hs1 := hs2.below hb2
    replace hb := hb.trans (hb2.mono hb.size)
    obtain ⟨l, hl0⟩ : ∃ l, l = backL s' h' l' := ⟨_, rfl⟩
    have hl : l.length ≤ 220 := by rw [hl0]; exact backL_len _ _ _
    rw [← hl0]
    clear hl0 hb2 hs2 hRN
    go_wp2_with fail
    refine (flip_any 2 _ _ 950 (by omega) (by omega) (hs1.le (by omega))).mono ?_
    rintro e w12 ⟨fb, rfl, hs2, hg2⟩
    replace hb : Below w.heap.size w w12 := hb.trans (gb_toBelow hg2 (Nat.le_refl _) (by have := hs1.lt; omega))
    clear hs1 hg2
    cases fb
    · have hs1 := hs2
      have hl : l.length ≤ 400 := by omega
      clear hs2
      go_wp2_with fail
      refine (backTo_any l _ (hC.below hb) (by omega)).mono ?_
      rintro e w20 ⟨v, rfl, hP, hb2⟩
      replace hb := hb.trans (hb2.mono hb.size)
      clear hb2 hs1
      by_cases h0 : domF l = 0
      · obtain ⟨vs, vh, vl, vb, rfl, hRP⟩ := toP_zero h0 hP
        have HF := Lib.hid (fun w' (h : Below w.heap.size w w') => domainFault_any l w' (hC.below h) (by omega))
        rw [h0] at HF
        have HO := Lib.hid (fun w' (h : Below w.heap.size w w') => ofBack_any l w' (hC.below h) (by omega))
        replace hRP := Lib.hid hRP
        clear h0 hP hl hC
        have hX1 := Blk.new w20 [.bool vs, .int .u64 vh, .int .u64 vl] 28
        replace hb := hb.alloc hb.size (.cells #[.bool vs, .int .u64 vh, .int .u64 vl] 28)
        go_wp2_with fail
        refine (HF.out _ hb).mono ?_
        rintro e w21 ⟨rfl, hb2⟩
        replace hX1 := hX1.below hb2
        replace hb := hb.trans (hb2.mono hb.size)
        clear hb2 HF
        go_wp2_with fail
        refine (HO.out _ hb).mono ?_
        rintro e w22 ⟨v', rfl, hR', hb2⟩
        obtain rfl := hRP.out v' hR'
        replace hX1 := (hX1.below hb2).alloc (.cells #[.bool vs, .int .u64 vh, .int .u64 vl] 28)
        replace hb := hb.trans (hb2.mono hb.size)
        have hX2 := Blk.new w22 [.bool vs, .int .u64 vh, .int .u64 vl] 28
        replace hb := hb.alloc hb.size (.cells #[.bool vs, .int .u64 vh, .int .u64 vl] 28)
        clear hb2 HO hR' hRP
        obtain ⟨a0, a1, a2, _⟩ := hX1.three
        obtain ⟨b0, b1, b2, _⟩ := hX2.three
        go_wp2_with fail
        refine (named_any _).mono ?_
        rintro e w23 ⟨rfl, hb2⟩
        replace hb := hb.trans (hb2.mono hb.size)
        go_wp2_with fail
        go_ret
        exact ⟨rfl, hb⟩
      · obtain rfl := toP_fault h0 hP
        have HF := Lib.hid (fun w' (h : Below w.heap.size w w') => domainFault_any l w' (hC.below h) (by omega))
        obtain ⟨z, hz⟩ : ∃ z, z = domF l := ⟨_, rfl⟩
        rw [← hz] at h0 HF ⊢
        clear hz hP hl hC
        have hX1 := Blk.new w20 [.bool false, .int .u64 0, .int .u64 0] 28
        replace hb := hb.alloc hb.size (.cells #[.bool false, .int .u64 0, .int .u64 0] 28)
        go_wp2_with fail
        refine (HF.out _ hb).mono ?_
        rintro e w21 ⟨rfl, hb2⟩
        replace hX1 := hX1.below hb2
        replace hb := hb.trans (hb2.mono hb.size)
        clear hb2 HF
        obtain ⟨a0, a1, a2, _⟩ := hX1.three
        go_wp2_with fail
        refine (named_any _).mono ?_
        rintro e w23 ⟨rfl, hb2⟩
        replace hb := hb.trans (hb2.mono hb.size)
        go_wp2_with fail
        go_ret
        exact ⟨rfl, hb⟩

    · go_wp2_with fail
      refine (changedN_any l _ _ 940 (hs2.le (by omega)) (by omega)).mono ?_
      rintro e w13 ⟨l2, hl2, rfl, hs1, hg2⟩
      replace hb : Below w.heap.size w w13 := hb.trans (gb_toBelow hg2 (Nat.le_refl _) (by have := hs2.lt; omega))
      replace hl2 : l2.length ≤ 400 := by omega
      clear hs2 hg2 hl
      have hl := hl2
      clear hl2
      go_wp2_with fail
      refine (backTo_any l2 _ (hC.below hb) (by omega)).mono ?_
      rintro e w20 ⟨v, rfl, hP, hb2⟩
      replace hb := hb.trans (hb2.mono hb.size)
      clear hb2 hs1
      by_cases h0 : domF l2 = 0
      · obtain ⟨vs, vh, vl, vb, rfl, hRP⟩ := toP_zero h0 hP
        have HF := Lib.hid (fun w' (h : Below w.heap.size w w') => domainFault_any l2 w' (hC.below h) (by omega))
        rw [h0] at HF
        have HO := Lib.hid (fun w' (h : Below w.heap.size w w') => ofBack_any l2 w' (hC.below h) (by omega))
        replace hRP := Lib.hid hRP
        clear h0 hP hl hC
        have hX1 := Blk.new w20 [.bool vs, .int .u64 vh, .int .u64 vl] 28
        replace hb := hb.alloc hb.size (.cells #[.bool vs, .int .u64 vh, .int .u64 vl] 28)
        go_wp2_with fail
        refine (HF.out _ hb).mono ?_
        rintro e w21 ⟨rfl, hb2⟩
        replace hX1 := hX1.below hb2
        replace hb := hb.trans (hb2.mono hb.size)
        clear hb2 HF
        go_wp2_with fail
        refine (HO.out _ hb).mono ?_
        rintro e w22 ⟨v', rfl, hR', hb2⟩
        obtain rfl := hRP.out v' hR'
        replace hX1 := (hX1.below hb2).alloc (.cells #[.bool vs, .int .u64 vh, .int .u64 vl] 28)
        replace hb := hb.trans (hb2.mono hb.size)
        have hX2 := Blk.new w22 [.bool vs, .int .u64 vh, .int .u64 vl] 28
        replace hb := hb.alloc hb.size (.cells #[.bool vs, .int .u64 vh, .int .u64 vl] 28)
        clear hb2 HO hR' hRP
        obtain ⟨a0, a1, a2, _⟩ := hX1.three
        obtain ⟨b0, b1, b2, _⟩ := hX2.three
        go_wp2_with fail
        refine (named_any _).mono ?_
        rintro e w23 ⟨rfl, hb2⟩
        replace hb := hb.trans (hb2.mono hb.size)
        go_wp2_with fail
        go_ret
        exact ⟨rfl, hb⟩
      · obtain rfl := toP_fault h0 hP
        have HF := Lib.hid (fun w' (h : Below w.heap.size w w') => domainFault_any l2 w' (hC.below h) (by omega))
        obtain ⟨z, hz⟩ : ∃ z, z = domF l2 := ⟨_, rfl⟩
        rw [← hz] at h0 HF ⊢
        clear hz hP hl hC
        have hX1 := Blk.new w20 [.bool false, .int .u64 0, .int .u64 0] 28
        replace hb := hb.alloc hb.size (.cells #[.bool false, .int .u64 0, .int .u64 0] 28)
        go_wp2_with fail
        refine (HF.out _ hb).mono ?_
        rintro e w21 ⟨rfl, hb2⟩
        replace hX1 := hX1.below hb2
        replace hb := hb.trans (hb2.mono hb.size)
        clear hb2 HF
        obtain ⟨a0, a1, a2, _⟩ := hX1.three
        go_wp2_with fail
        refine (named_any _).mono ?_
        rintro e w23 ⟨rfl, hb2⟩
        replace hb := hb.trans (hb2.mono hb.size)
        go_wp2_with fail
        go_ret
        exact ⟨rfl, hb⟩
  · rw [show backV s hi lo = _ from if_neg hr] at HBk
    have h3 := adF_three (fun e => hr ((adF_nat hh hlo).1 e))
    rw [h3] at HAF
    clear hr hh hlo h3
    go_wp2_with fail
    refine HBk.out.mono ?_
    rintro e w3 ⟨rfl, hb2⟩
    replace hX := hX.below hb2
    replace hs1 := hs1.below hb2
    replace hb := hb.trans (hb2.mono hb.size)
    clear hb2 HBk c0 c1 c2
    obtain ⟨c0, c1, c2, _⟩ := hX.three
    go_wp2_with fail
    refine (HAF.out _).mono ?_
    rintro e w4 ⟨rfl, hb2⟩
    replace hs1 := hs1.below hb2
    replace hb := hb.trans (hb2.mono hb.size)
    clear hb2 HAF c0 c1 c2 hX
    go_wp2_with fail
    refine (addr_any _ _ 960 (hs1.le (by omega))).mono ?_
    rintro e w10 ⟨s', hi', lo', hRA, rfl, hs2, hg2⟩
    obtain ⟨h', l', rfl, rfl, hRN⟩ := rightA_nat hRA
    replace hb : Below w.heap.size w w10 := hb.trans (gb_toBelow hg2 (Nat.le_refl _) (by have := hs1.lt; omega))
    clear hs1 hg2 hRA
    go_wp2_with fail
    refine (backName_any hRN _ (hC.below hb).tabs).mono ?_
    rintro e w11 ⟨rfl, hb2⟩
    have hs1 := hs2.below hb2
    replace hb := hb.trans (hb2.mono hb.size)
    obtain ⟨l, hl0⟩ : ∃ l, l = backL s' h' l' := ⟨_, rfl⟩
    have hl : l.length ≤ 220 := by rw [hl0]; exact backL_len _ _ _
    rw [← hl0]
    clear hl0 hb2 hs2 hRN
    go_wp2_with fail
    refine (flip_any 2 _ _ 950 (by omega) (by omega) (hs1.le (by omega))).mono ?_
    rintro e w12 ⟨fb, rfl, hs2, hg2⟩
    replace hb : Below w.heap.size w w12 := hb.trans (gb_toBelow hg2 (Nat.le_refl _) (by have := hs1.lt; omega))
    clear hs1 hg2
    cases fb
    · have hs1 := hs2
      have hl : l.length ≤ 400 := by omega
      clear hs2
      go_wp2_with fail
      refine (backTo_any l _ (hC.below hb) (by omega)).mono ?_
      rintro e w20 ⟨v, rfl, hP, hb2⟩
      replace hb := hb.trans (hb2.mono hb.size)
      clear hb2 hs1
      by_cases h0 : domF l = 0
      · obtain ⟨vs, vh, vl, vb, rfl, hRP⟩ := toP_zero h0 hP
        have HF := Lib.hid (fun w' (h : Below w.heap.size w w') => domainFault_any l w' (hC.below h) (by omega))
        rw [h0] at HF
        have HO := Lib.hid (fun w' (h : Below w.heap.size w w') => ofBack_any l w' (hC.below h) (by omega))
        replace hRP := Lib.hid hRP
        clear h0 hP hl hC
        have hX1 := Blk.new w20 [.bool vs, .int .u64 vh, .int .u64 vl] 28
        replace hb := hb.alloc hb.size (.cells #[.bool vs, .int .u64 vh, .int .u64 vl] 28)
        go_wp2_with fail
        refine (HF.out _ hb).mono ?_
        rintro e w21 ⟨rfl, hb2⟩
        replace hX1 := hX1.below hb2
        replace hb := hb.trans (hb2.mono hb.size)
        clear hb2 HF
        go_wp2_with fail
        refine (HO.out _ hb).mono ?_
        rintro e w22 ⟨v', rfl, hR', hb2⟩
        obtain rfl := hRP.out v' hR'
        replace hX1 := (hX1.below hb2).alloc (.cells #[.bool vs, .int .u64 vh, .int .u64 vl] 28)
        replace hb := hb.trans (hb2.mono hb.size)
        have hX2 := Blk.new w22 [.bool vs, .int .u64 vh, .int .u64 vl] 28
        replace hb := hb.alloc hb.size (.cells #[.bool vs, .int .u64 vh, .int .u64 vl] 28)
        clear hb2 HO hR' hRP
        obtain ⟨a0, a1, a2, _⟩ := hX1.three
        obtain ⟨b0, b1, b2, _⟩ := hX2.three
        go_wp2_with fail
        refine (named_any _).mono ?_
        rintro e w23 ⟨rfl, hb2⟩
        replace hb := hb.trans (hb2.mono hb.size)
        go_wp2_with fail
        go_ret
        exact ⟨rfl, hb⟩
      · obtain rfl := toP_fault h0 hP
        have HF := Lib.hid (fun w' (h : Below w.heap.size w w') => domainFault_any l w' (hC.below h) (by omega))
        obtain ⟨z, hz⟩ : ∃ z, z = domF l := ⟨_, rfl⟩
        rw [← hz] at h0 HF ⊢
        clear hz hP hl hC
        have hX1 := Blk.new w20 [.bool false, .int .u64 0, .int .u64 0] 28
        replace hb := hb.alloc hb.size (.cells #[.bool false, .int .u64 0, .int .u64 0] 28)
        go_wp2_with fail
        refine (HF.out _ hb).mono ?_
        rintro e w21 ⟨rfl, hb2⟩
        replace hX1 := hX1.below hb2
        replace hb := hb.trans (hb2.mono hb.size)
        clear hb2 HF
        obtain ⟨a0, a1, a2, _⟩ := hX1.three
        go_wp2_with fail
        refine (named_any _).mono ?_
        rintro e w23 ⟨rfl, hb2⟩
        replace hb := hb.trans (hb2.mono hb.size)
        go_wp2_with fail
        go_ret
        exact ⟨rfl, hb⟩

    · go_wp2_with fail
      refine (changedN_any l _ _ 940 (hs2.le (by omega)) (by omega)).mono ?_
      rintro e w13 ⟨l2, hl2, rfl, hs1, hg2⟩
      replace hb : Below w.heap.size w w13 := hb.trans (gb_toBelow hg2 (Nat.le_refl _) (by have := hs2.lt; omega))
      replace hl2 : l2.length ≤ 400 := by omega
      clear hs2 hg2 hl
      have hl := hl2
      clear hl2
      go_wp2_with fail
      refine (backTo_any l2 _ (hC.below hb) (by omega)).mono ?_
      rintro e w20 ⟨v, rfl, hP, hb2⟩
      replace hb := hb.trans (hb2.mono hb.size)
      clear hb2 hs1
      by_cases h0 : domF l2 = 0
      · obtain ⟨vs, vh, vl, vb, rfl, hRP⟩ := toP_zero h0 hP
        have HF := Lib.hid (fun w' (h : Below w.heap.size w w') => domainFault_any l2 w' (hC.below h) (by omega))
        rw [h0] at HF
        have HO := Lib.hid (fun w' (h : Below w.heap.size w w') => ofBack_any l2 w' (hC.below h) (by omega))
        replace hRP := Lib.hid hRP
        clear h0 hP hl hC
        have hX1 := Blk.new w20 [.bool vs, .int .u64 vh, .int .u64 vl] 28
        replace hb := hb.alloc hb.size (.cells #[.bool vs, .int .u64 vh, .int .u64 vl] 28)
        go_wp2_with fail
        refine (HF.out _ hb).mono ?_
        rintro e w21 ⟨rfl, hb2⟩
        replace hX1 := hX1.below hb2
        replace hb := hb.trans (hb2.mono hb.size)
        clear hb2 HF
        go_wp2_with fail
        refine (HO.out _ hb).mono ?_
        rintro e w22 ⟨v', rfl, hR', hb2⟩
        obtain rfl := hRP.out v' hR'
        replace hX1 := (hX1.below hb2).alloc (.cells #[.bool vs, .int .u64 vh, .int .u64 vl] 28)
        replace hb := hb.trans (hb2.mono hb.size)
        have hX2 := Blk.new w22 [.bool vs, .int .u64 vh, .int .u64 vl] 28
        replace hb := hb.alloc hb.size (.cells #[.bool vs, .int .u64 vh, .int .u64 vl] 28)
        clear hb2 HO hR' hRP
        obtain ⟨a0, a1, a2, _⟩ := hX1.three
        obtain ⟨b0, b1, b2, _⟩ := hX2.three
        go_wp2_with fail
        refine (named_any _).mono ?_
        rintro e w23 ⟨rfl, hb2⟩
        replace hb := hb.trans (hb2.mono hb.size)
        go_wp2_with fail
        go_ret
        exact ⟨rfl, hb⟩
      · obtain rfl := toP_fault h0 hP
        have HF := Lib.hid (fun w' (h : Below w.heap.size w w') => domainFault_any l2 w' (hC.below h) (by omega))
        obtain ⟨z, hz⟩ : ∃ z, z = domF l2 := ⟨_, rfl⟩
        rw [← hz] at h0 HF ⊢
        clear hz hP hl hC
        have hX1 := Blk.new w20 [.bool false, .int .u64 0, .int .u64 0] 28
        replace hb := hb.alloc hb.size (.cells #[.bool false, .int .u64 0, .int .u64 0] 28)
        go_wp2_with fail
        refine (HF.out _ hb).mono ?_
        rintro e w21 ⟨rfl, hb2⟩
        replace hX1 := hX1.below hb2
        replace hb := hb.trans (hb2.mono hb.size)
        clear hb2 HF
        obtain ⟨a0, a1, a2, _⟩ := hX1.three
        go_wp2_with fail
        refine (named_any _).mono ?_
        rintro e w23 ⟨rfl, hb2⟩
        replace hb := hb.trans (hb2.mono hb.size)
        go_wp2_with fail
        go_ret
        exact ⟨rfl, hb⟩

end Go.Proofs.YthjhokicojgpbaaGreatDoor
