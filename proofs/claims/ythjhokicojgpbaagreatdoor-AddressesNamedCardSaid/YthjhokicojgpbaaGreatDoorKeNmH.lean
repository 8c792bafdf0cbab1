/- The labels of a number. -/
import Derived.Test.YthjhokicojgpbaaGreatDoorKeNmG
import Derived.Test.YthjhokicojgpbaaGreatDoorKeHex
import Derived.Test.YthjhokicojgpbaaGreatDoorKeDec
namespace Go.Proofs.YthjhokicojgpbaaGreatDoor
open Go.RowKit
set_option linter.unusedVariables false
set_option linter.unusedSimpArgs false

theorem and_lo (n m : Nat) (k : Int) (hk : k = ((2 ^ m - 1 : Nat) : Int)) (hm : m ≤ 8) (hn : n < 2 ^ 64) : bits .and .u64 (n : Int) k = ((n % 2 ^ m : Nat) : Int) := by
  have hp : (2 : Nat) ^ m ≤ 2 ^ 8 := Nat.pow_le_pow_right (by decide) hm
  have h0 : 0 < (2 : Nat) ^ m := Nat.two_pow_pos m
  rw [hk, u64_and (n : Int) _ (by omega) (by omega) (by omega) (by omega)]
  have : (n : Int).toNat &&& (((2 ^ m - 1 : Nat) : Int)).toNat = n % 2 ^ m := by
    rw [Int.toNat_natCast, Int.toNat_natCast]; exact Nat.and_two_pow_sub_one_eq_mod n m
  rw [this]
theorem pow_div (n B k : Nat) : n / B ^ k / B = n / B ^ (k + 1) := by rw [Nat.div_div_eq_div_mul, Nat.pow_succ]

set_option maxHeartbeats 4000000 in
set_option maxRecDepth 100000 in
theorem labels4_any (bt : Int) (hbt : bt = 8) (n m : Nat) (w : World) (hT : Tabs w) (hn : n < 2 ^ 64) (hm : m ≤ 16) :
    Calls Tryz.prog 102 #[.agg #[.int .i64 bt, .int .i64 10], .int .u64 (n : Int), .int .i64 (m : Int)] w fun e w' => GivesOS eStr 9 w.heap.size ((digs 256 n m).map (labD false)) e w' ∧ Below w.heap.size w w' := by
  replace hbt := Lib.hid hbt
  have hC := Blk.new w [.int .i64 bt, .int .i64 10] 119
  have hbw : Below w.heap.size w (w.alloc (.cells [Value.int .i64 bt, .int .i64 10].toArray 119)) := (Below.refl _ _).alloc (Nat.le_refl _) _
  have hTW : ∀ W, Below w.heap.size w W → Tabs W := fun W hW => hT.below hW
  replace hTW := Lib.hid hTW
  clear hT
  have hne : ∀ {W : World} {v : Value} {xs : List (List UInt8)}, OwnE eStr 9 (w.heap.size + 1) W v xs → some w.heap.size ≠ v.ownBlock := fun h e => by have := h.lt _ e.symm; omega
  go_enter Tryz.func102, Tryz.ntmps102
  go_wp2_with fail
  generalize World.alloc w _ = w0 at *
  go_loopw [1, 7, 9] (fun vn vo vi wr => ∃ k : Nat, k ≤ m ∧ vi = .int .i64 k ∧ vn = .int .u64 ((n / 256 ^ k : Nat) : Int) ∧ OwnE eStr 9 (w.heap.size + 1) wr vo ((digs 256 n k).map (labD false)) ∧ Blk wr w.heap.size [.int .i64 bt, .int .i64 10] 119 ∧ Below w.heap.size w wr) (fun _ _ vi _ => m - (intOf vi).toNat)
  case atStart => exact ⟨0, Nat.zero_le _, rfl, by rw [Nat.pow_zero, Nat.div_one], OwnE.nil _ _, hC, hbw⟩
  case round =>
    clear hC hbw
    obtain ⟨k, hk, rfl, rfl, hown, hC, hbw⟩ := hrel
    by_cases hlt : k < m
    · have hlt' : (k : Int) < m := by omega
      obtain ⟨N, hN⟩ : ∃ N, N = n / 256 ^ k := ⟨_, rfl⟩
      have hN64 : N < 2 ^ 64 := by rw [hN]; exact Nat.lt_of_le_of_lt (Nat.div_le_self _ _) hn
      have hsucc := Lib.hid (show (digs 256 n (k + 1)).map (labD false) = (digs 256 n k).map (labD false) ++ [labD false (N % 256)] by rw [digs_succ, List.map_append, hN]; rfl)
      have hnx := Lib.hid (show N / 256 = n / 256 ^ (k + 1) by rw [hN]; exact pow_div n 256 k)
      have hlen := Lib.hid (show ((digs 256 n k).map (labD false)).length = k by rw [List.length_map, digs_len])
      rw [← hN]
      obtain ⟨d, hd⟩ : ∃ d, d = N % 256 := ⟨_, rfl⟩
      have hd1 : d < 256 := by rw [hd]; exact Nat.mod_lt _ (by decide)
      have ha := and_lo N 8 255 (by decide) (by decide) hN64
      rw [show N % 2 ^ 8 = d from hd.symm] at ha
      rw [← hd] at hsucc
      obtain ⟨x, hx⟩ : ∃ x, x = labD false d := ⟨_, rfl⟩
      rw [← hx] at hsucc
      have HF := fun W (hW : Below w.heap.size w W) => (show Hid (Calls Tryz.prog 145 #[.int .u64 (d : Int), .int .i64 10] W (GivesV (.string ⟨x.toArray⟩) W)) from by
        have := fmtU10 d (by omega) W (hTW.out W hW)
        rw [dec3_eq (by omega)] at this
        rw [hx]
        exact Lib.hid this)
      generalize (digs 256 n k).map (labD false) = L at *
      have hdv : (N : Int) / 256 = ((N / 256 : Nat) : Int) := by omega
      have hnn : 0 ≤ (N : Int) := Int.natCast_nonneg _
      have hsh : (N : Int) / 2 ^ min bt.toNat 64 = ((N / 256 : Nat) : Int) := by
        rw [hbt.out, show min (Int.toNat 8) 64 = 8 from by decide]
        show (N : Int) / 256 = _
        omega
      have hsl : IntKind.u64.wrap (2 ^ min bt.toNat 64) = 256 := by
        rw [hbt.out, show min (Int.toNat 8) 64 = 8 from by decide, IntKind.wrap_u64]; rfl
      have hb0 : 0 ≤ bt := by rw [hbt.out]; decide
      have q5 : IntKind.u64.wrap 256 = 256 := by rw [IntKind.wrap_u64]; rfl
      have q6 : IntKind.u64.wrap 255 = 255 := by rw [IntKind.wrap_u64]; rfl
      replace hx := Lib.hid hx
      replace hd := Lib.hid hd
      replace hN := Lib.hid hN
      replace hn := Lib.hid hn
      clear hd1 hN64
      go_upto_region 4 with fail
      refine wb_begin ([w.heap.size]) [] (by kernel_rfl) (fun u0 hb0' hz0' => ?_)
      replace hC := hC.below hb0'
      replace hown := hown.below hb0'
      replace hbw := hbw.trans (hb0'.mono hbw.size)
      clear hb0' hz0'
      refine wb_pure (i := 0) (d := some 11) (v := ?_) (by simp only [List.getElem?_toArray, List.getElem?_cons_succ, List.getElem?_cons_zero] <;> rfl) (by rfl) (by kernel_rfl) (by kernel_rfl) (by kernel_rfl) (fun _ _ _ h => h) (by rfl) ?_ ?_
      rotate_left
      · ((intro u); go_simp; try with_reducible rfl)
      try simp only [Act.put, List.setIfInBounds_toArray, List.set_cons_zero, List.set_cons_succ]
      refine wb_pure (i := 1) (d := some 12) (v := ?_) (by simp only [List.getElem?_toArray, List.getElem?_cons_succ, List.getElem?_cons_zero] <;> rfl) (by rfl) (by kernel_rfl) (by kernel_rfl) (by kernel_rfl) (fun _ _ _ h => h) (by rfl) ?_ ?_
      rotate_left
      · ((intro u); go_simp; try with_reducible rfl)
      try simp only [Act.put, List.setIfInBounds_toArray, List.set_cons_zero, List.set_cons_succ]
      refine wb_pure (i := 2) (d := some 13) (v := ?_) (by simp only [List.getElem?_toArray, List.getElem?_cons_succ, List.getElem?_cons_zero] <;> rfl) (by rfl) (by kernel_rfl) (by kernel_rfl) (by kernel_rfl) (fun _ _ _ h => h) (by rfl) ?_ ?_
      rotate_left
      · ((intro u); go_simp; try with_reducible rfl)
      try simp only [Act.put, List.setIfInBounds_toArray, List.set_cons_zero, List.set_cons_succ]
      refine wb_take (i := 3) (d := some 14) (v := ?_) (by simp only [List.getElem?_toArray, List.getElem?_cons_succ, List.getElem?_cons_zero] <;> rfl) (by rfl) (by kernel_rfl) (by kernel_rfl) (by kernel_rfl) (fun _ _ _ h => h) (by rfl) (by kernel_rfl) ?_ ?_
      rotate_left
      · ((intro u hu); have kc := hC.kb hu (List.mem_singleton.2 rfl); have q0 := kc.cell (i := 0) (v := .int .i64 bt) rfl; have q1 := kc.cell (i := 1) (v := .int .i64 10) rfl; clear kc; go_simp; try with_reducible rfl)
      try simp only [Act.put, List.setIfInBounds_toArray, List.set_cons_zero, List.set_cons_succ]
      refine wb_pure (i := 4) (d := some 15) (v := ?_) (by simp only [List.getElem?_toArray, List.getElem?_cons_succ, List.getElem?_cons_zero] <;> rfl) (by rfl) (by kernel_rfl) (by kernel_rfl) (by kernel_rfl) (fun _ _ _ h => h) (by rfl) ?_ ?_
      rotate_left
      · ((intro u); go_simp; try with_reducible rfl)
      try simp only [Act.put, List.setIfInBounds_toArray, List.set_cons_zero, List.set_cons_succ]
      refine wb_pure (i := 5) (d := some 16) (v := ?_) (by simp only [List.getElem?_toArray, List.getElem?_cons_succ, List.getElem?_cons_zero] <;> rfl) (by rfl) (by kernel_rfl) (by kernel_rfl) (by kernel_rfl) (fun _ _ _ h => h) (by rfl) ?_ ?_
      rotate_left
      · ((intro u); go_simp; try with_reducible rfl)
      try simp only [Act.put, List.setIfInBounds_toArray, List.set_cons_zero, List.set_cons_succ]
      refine wb_pure (i := 6) (d := some 17) (v := ?_) (by simp only [List.getElem?_toArray, List.getElem?_cons_succ, List.getElem?_cons_zero] <;> rfl) (by rfl) (by kernel_rfl) (by kernel_rfl) (by kernel_rfl) (fun _ _ _ h => h) (by rfl) ?_ ?_
      rotate_left
      · ((intro u); go_simp; try with_reducible rfl)
      try simp only [Act.put, List.setIfInBounds_toArray, List.set_cons_zero, List.set_cons_succ]
      refine wb_pure (i := 7) (d := some 18) (v := ?_) (by simp only [List.getElem?_toArray, List.getElem?_cons_succ, List.getElem?_cons_zero] <;> rfl) (by rfl) (by kernel_rfl) (by kernel_rfl) (by kernel_rfl) (fun _ _ _ h => h) (by rfl) ?_ ?_
      rotate_left
      · ((intro u); go_simp; try with_reducible rfl)
      try simp only [Act.put, List.setIfInBounds_toArray, List.set_cons_zero, List.set_cons_succ]
      refine wb_take (i := 8) (d := some 19) (v := ?_) (by simp only [List.getElem?_toArray, List.getElem?_cons_succ, List.getElem?_cons_zero] <;> rfl) (by rfl) (by kernel_rfl) (by kernel_rfl) (by kernel_rfl) (fun _ _ _ h => h) (by rfl) (by kernel_rfl) ?_ ?_
      rotate_left
      · ((intro u hu); have kc := hC.kb hu (List.mem_singleton.2 rfl); have q0 := kc.cell (i := 0) (v := .int .i64 bt) rfl; have q1 := kc.cell (i := 1) (v := .int .i64 10) rfl; clear kc; go_simp; try with_reducible rfl)
      try simp only [Act.put, List.setIfInBounds_toArray, List.set_cons_zero, List.set_cons_succ]
      refine wb_one (i := 9) (by simp only [List.getElem?_toArray, List.getElem?_cons_succ, List.getElem?_cons_zero] <;> rfl) (by kernel_rfl) (by rfl) (fun K hK => ?_)
      go_simp
      refine (HF _ hbw).out.mono ?_
      rintro e u1 ⟨rfl, hv1⟩
      refine hK _ _ (Kb.below hv1 (by intro q hq; rw [List.mem_singleton.1 hq]; exact hC.lt)) ?_
      replace hC := hC.below hv1
      replace hown := hown.below hv1
      replace hbw := hbw.trans (hv1.mono hbw.size)
      clear hK K hv1
      try simp only [Act.put, List.setIfInBounds_toArray, List.set_cons_zero, List.set_cons_succ]
      refine wb_one (i := 10) (by simp only [List.getElem?_toArray, List.getElem?_cons_succ, List.getElem?_cons_zero] <;> rfl) (by kernel_rfl) (by rfl) (fun K hK => ?_)
      go_simp
      refine hK _ _ (Kb.gb (World.grownBy_alloc _ _ none) (by intro q hq; rw [List.mem_singleton.1 hq]; exact ⟨hC.lt, by simp⟩)) ?_
      refine wb_new (cs := [.string ⟨x.toArray⟩]) (t := 9) (fun u3 hv3 hL3 hz3 => ?_)
      replace hC := hC.below hv3
      replace hown := hown.below hv3
      replace hbw := hbw.trans (hv3.mono hbw.size)
      clear hK K hv3 hz3
      try simp only [Act.put, List.setIfInBounds_toArray, List.set_cons_zero, List.set_cons_succ]
      refine wb_one (i := 11) (by simp only [List.getElem?_toArray, List.getElem?_cons_succ, List.getElem?_cons_zero] <;> rfl) (by kernel_rfl) (by rfl) (fun K hK => ?_)
      refine wp_app tyeStr _ _ rfl (w.heap.size + 1) _ _ [x] rfl hown ⟨_, 0, none⟩ 1 1 rfl rfl ?c1 ?c2 ?c3 ?_
      case c1 =>
        intro j u hj
        rw [Enc.cells_single] at hj
        rw [Addr.add_lit, Nat.zero_add]
        exact hL3.cell hj
      case c2 => have := hlen.out; rw [List.length_singleton]; omega
      case c3 => have := hC.lt; omega
      intro v3 x3 hown3 hg3 hd3
      clear hd3
      have hne3 := hne hown
      refine hK _ _ (Kb.gb hg3 (by intro q hq; rw [List.mem_singleton.1 hq]; exact ⟨hC.lt, hne3⟩)) ?_
      have hb3 : Below w.heap.size w x3 := hbw.grown hg3 hbw.size (fun k h => by have := (hown.lt k h).1; omega)
      replace hC : Blk x3 w.heap.size [.int .i64 bt, .int .i64 10] 119 := (hg3.block _ hC.lt hne3).trans hC
      clear hK K hg3 hown hbw hL3
      try simp only [Act.put, List.setIfInBounds_toArray, List.set_cons_zero, List.set_cons_succ]
      refine wb_pure (i := 12) (d := some 7) (v := ?_) (by simp only [List.getElem?_toArray, List.getElem?_cons_succ, List.getElem?_cons_zero] <;> rfl) (by rfl) (by kernel_rfl) (by kernel_rfl) (by kernel_rfl) (fun _ _ _ h => h) (by rfl) ?_ ?_
      rotate_left
      · ((intro u); go_simp; try with_reducible rfl)
      try simp only [Act.put, List.setIfInBounds_toArray, List.set_cons_zero, List.set_cons_succ]
      refine wb_done (by kernel_rfl) ?_ _
      skip
      have c0 := hC.cell (i := 0) (v := .int .i64 bt) rfl
      replace hb3 := Lib.hid hb3
      replace hown3 := Lib.hid hown3
      replace hC := Lib.hid hC
      clear HF hsl ha q5 q6 hlen hne hTW hne3 hdv
      go_wp2_with fail

      go_roundw
      case rel => exact ⟨k + 1, by omega, by go_num, by rw [← hnx.out]; first | rfl | (congr 1; omega), by rw [hsucc.out]; exact hown3.out, hC.out, hb3.out⟩
      case measure => simp [intOf]; omega
    · have hkm : k = m := by omega
      subst hkm
      obtain ⟨A', c', rfl, _⟩ := hown.sl
      go_wp2_with fail
      go_ret
      exact ⟨⟨_, rfl, OwnE.mono hown (by omega)⟩, hbw⟩

set_option maxHeartbeats 4000000 in
set_option maxRecDepth 100000 in
theorem labels6_any (bt : Int) (hbt : bt = 4) (n m : Nat) (w : World) (hT : Tabs w) (hn : n < 2 ^ 64) (hm : m ≤ 16) :
    Calls Tryz.prog 102 #[.agg #[.int .i64 bt, .int .i64 16], .int .u64 (n : Int), .int .i64 (m : Int)] w fun e w' => GivesOS eStr 9 w.heap.size ((digs 16 n m).map (labD true)) e w' ∧ Below w.heap.size w w' := by
  replace hbt := Lib.hid hbt
  have hC := Blk.new w [.int .i64 bt, .int .i64 16] 119
  have hbw : Below w.heap.size w (w.alloc (.cells [Value.int .i64 bt, .int .i64 16].toArray 119)) := (Below.refl _ _).alloc (Nat.le_refl _) _
  have hTW : ∀ W, Below w.heap.size w W → Tabs W := fun W hW => hT.below hW
  replace hTW := Lib.hid hTW
  clear hT
  have hne : ∀ {W : World} {v : Value} {xs : List (List UInt8)}, OwnE eStr 9 (w.heap.size + 1) W v xs → some w.heap.size ≠ v.ownBlock := fun h e => by have := h.lt _ e.symm; omega
  go_enter Tryz.func102, Tryz.ntmps102
  go_wp2_with fail
  generalize World.alloc w _ = w0 at *
  go_loopw [1, 7, 9] (fun vn vo vi wr => ∃ k : Nat, k ≤ m ∧ vi = .int .i64 k ∧ vn = .int .u64 ((n / 16 ^ k : Nat) : Int) ∧ OwnE eStr 9 (w.heap.size + 1) wr vo ((digs 16 n k).map (labD true)) ∧ Blk wr w.heap.size [.int .i64 bt, .int .i64 16] 119 ∧ Below w.heap.size w wr) (fun _ _ vi _ => m - (intOf vi).toNat)
  case atStart => exact ⟨0, Nat.zero_le _, rfl, by rw [Nat.pow_zero, Nat.div_one], OwnE.nil _ _, hC, hbw⟩
  case round =>
    clear hC hbw
    obtain ⟨k, hk, rfl, rfl, hown, hC, hbw⟩ := hrel
    by_cases hlt : k < m
    · have hlt' : (k : Int) < m := by omega
      obtain ⟨N, hN⟩ : ∃ N, N = n / 16 ^ k := ⟨_, rfl⟩
      have hN64 : N < 2 ^ 64 := by rw [hN]; exact Nat.lt_of_le_of_lt (Nat.div_le_self _ _) hn
      have hsucc := Lib.hid (show (digs 16 n (k + 1)).map (labD true) = (digs 16 n k).map (labD true) ++ [labD true (N % 16)] by rw [digs_succ, List.map_append, hN]; rfl)
      have hnx := Lib.hid (show N / 16 = n / 16 ^ (k + 1) by rw [hN]; exact pow_div n 16 k)
      have hlen := Lib.hid (show ((digs 16 n k).map (labD true)).length = k by rw [List.length_map, digs_len])
      rw [← hN]
      obtain ⟨d, hd⟩ : ∃ d, d = N % 16 := ⟨_, rfl⟩
      have hd1 : d < 16 := by rw [hd]; exact Nat.mod_lt _ (by decide)
      have ha := and_lo N 4 15 (by decide) (by decide) hN64
      rw [show N % 2 ^ 4 = d from hd.symm] at ha
      rw [← hd] at hsucc
      obtain ⟨x, hx⟩ : ∃ x, x = labD true d := ⟨_, rfl⟩
      rw [← hx] at hsucc
      have HF := fun W (hW : Below w.heap.size w W) => (show Hid (Calls Tryz.prog 145 #[.int .u64 (d : Int), .int .i64 16] W (GivesV (.string ⟨x.toArray⟩) W)) from by
        have := fmtU16 d (by omega) W (hTW.out W hW)
        rw [show hexL d = [hexc d] by unfold hexL; rw [if_pos (by omega)]] at this
        rw [hx]
        exact Lib.hid this)
      generalize (digs 16 n k).map (labD true) = L at *
      have hdv : (N : Int) / 16 = ((N / 16 : Nat) : Int) := by omega
      have hnn : 0 ≤ (N : Int) := Int.natCast_nonneg _
      have hsh : (N : Int) / 2 ^ min bt.toNat 64 = ((N / 16 : Nat) : Int) := by
        rw [hbt.out, show min (Int.toNat 4) 64 = 4 from by decide]
        show (N : Int) / 16 = _
        omega
      have hsl : IntKind.u64.wrap (2 ^ min bt.toNat 64) = 16 := by
        rw [hbt.out, show min (Int.toNat 4) 64 = 4 from by decide, IntKind.wrap_u64]; rfl
      have hb0 : 0 ≤ bt := by rw [hbt.out]; decide
      have q5 : IntKind.u64.wrap 16 = 16 := by rw [IntKind.wrap_u64]; rfl
      have q6 : IntKind.u64.wrap 15 = 15 := by rw [IntKind.wrap_u64]; rfl
      replace hx := Lib.hid hx
      replace hd := Lib.hid hd
      replace hN := Lib.hid hN
      replace hn := Lib.hid hn
      clear hd1 hN64
      go_upto_region 4 with fail
      refine wb_begin ([w.heap.size]) [] (by kernel_rfl) (fun u0 hb0' hz0' => ?_)
      replace hC := hC.below hb0'
      replace hown := hown.below hb0'
      replace hbw := hbw.trans (hb0'.mono hbw.size)
      clear hb0' hz0'
      refine wb_pure (i := 0) (d := some 11) (v := ?_) (by simp only [List.getElem?_toArray, List.getElem?_cons_succ, List.getElem?_cons_zero] <;> rfl) (by rfl) (by kernel_rfl) (by kernel_rfl) (by kernel_rfl) (fun _ _ _ h => h) (by rfl) ?_ ?_
      rotate_left
      · ((intro u); go_simp; try with_reducible rfl)
      try simp only [Act.put, List.setIfInBounds_toArray, List.set_cons_zero, List.set_cons_succ]
      refine wb_pure (i := 1) (d := some 12) (v := ?_) (by simp only [List.getElem?_toArray, List.getElem?_cons_succ, List.getElem?_cons_zero] <;> rfl) (by rfl) (by kernel_rfl) (by kernel_rfl) (by kernel_rfl) (fun _ _ _ h => h) (by rfl) ?_ ?_
      rotate_left
      · ((intro u); go_simp; try with_reducible rfl)
      try simp only [Act.put, List.setIfInBounds_toArray, List.set_cons_zero, List.set_cons_succ]
      refine wb_pure (i := 2) (d := some 13) (v := ?_) (by simp only [List.getElem?_toArray, List.getElem?_cons_succ, List.getElem?_cons_zero] <;> rfl) (by rfl) (by kernel_rfl) (by kernel_rfl) (by kernel_rfl) (fun _ _ _ h => h) (by rfl) ?_ ?_
      rotate_left
      · ((intro u); go_simp; try with_reducible rfl)
      try simp only [Act.put, List.setIfInBounds_toArray, List.set_cons_zero, List.set_cons_succ]
      refine wb_take (i := 3) (d := some 14) (v := ?_) (by simp only [List.getElem?_toArray, List.getElem?_cons_succ, List.getElem?_cons_zero] <;> rfl) (by rfl) (by kernel_rfl) (by kernel_rfl) (by kernel_rfl) (fun _ _ _ h => h) (by rfl) (by kernel_rfl) ?_ ?_
      rotate_left
      · ((intro u hu); have kc := hC.kb hu (List.mem_singleton.2 rfl); have q0 := kc.cell (i := 0) (v := .int .i64 bt) rfl; have q1 := kc.cell (i := 1) (v := .int .i64 16) rfl; clear kc; go_simp; try with_reducible rfl)
      try simp only [Act.put, List.setIfInBounds_toArray, List.set_cons_zero, List.set_cons_succ]
      refine wb_pure (i := 4) (d := some 15) (v := ?_) (by simp only [List.getElem?_toArray, List.getElem?_cons_succ, List.getElem?_cons_zero] <;> rfl) (by rfl) (by kernel_rfl) (by kernel_rfl) (by kernel_rfl) (fun _ _ _ h => h) (by rfl) ?_ ?_
      rotate_left
      · ((intro u); go_simp; try with_reducible rfl)
      try simp only [Act.put, List.setIfInBounds_toArray, List.set_cons_zero, List.set_cons_succ]
      refine wb_pure (i := 5) (d := some 16) (v := ?_) (by simp only [List.getElem?_toArray, List.getElem?_cons_succ, List.getElem?_cons_zero] <;> rfl) (by rfl) (by kernel_rfl) (by kernel_rfl) (by kernel_rfl) (fun _ _ _ h => h) (by rfl) ?_ ?_
      rotate_left
      · ((intro u); go_simp; try with_reducible rfl)
      try simp only [Act.put, List.setIfInBounds_toArray, List.set_cons_zero, List.set_cons_succ]
      refine wb_pure (i := 6) (d := some 17) (v := ?_) (by simp only [List.getElem?_toArray, List.getElem?_cons_succ, List.getElem?_cons_zero] <;> rfl) (by rfl) (by kernel_rfl) (by kernel_rfl) (by kernel_rfl) (fun _ _ _ h => h) (by rfl) ?_ ?_
      rotate_left
      · ((intro u); go_simp; try with_reducible rfl)
      try simp only [Act.put, List.setIfInBounds_toArray, List.set_cons_zero, List.set_cons_succ]
      refine wb_pure (i := 7) (d := some 18) (v := ?_) (by simp only [List.getElem?_toArray, List.getElem?_cons_succ, List.getElem?_cons_zero] <;> rfl) (by rfl) (by kernel_rfl) (by kernel_rfl) (by kernel_rfl) (fun _ _ _ h => h) (by rfl) ?_ ?_
      rotate_left
      · ((intro u); go_simp; try with_reducible rfl)
      try simp only [Act.put, List.setIfInBounds_toArray, List.set_cons_zero, List.set_cons_succ]
      refine wb_take (i := 8) (d := some 19) (v := ?_) (by simp only [List.getElem?_toArray, List.getElem?_cons_succ, List.getElem?_cons_zero] <;> rfl) (by rfl) (by kernel_rfl) (by kernel_rfl) (by kernel_rfl) (fun _ _ _ h => h) (by rfl) (by kernel_rfl) ?_ ?_
      rotate_left
      · ((intro u hu); have kc := hC.kb hu (List.mem_singleton.2 rfl); have q0 := kc.cell (i := 0) (v := .int .i64 bt) rfl; have q1 := kc.cell (i := 1) (v := .int .i64 16) rfl; clear kc; go_simp; try with_reducible rfl)
      try simp only [Act.put, List.setIfInBounds_toArray, List.set_cons_zero, List.set_cons_succ]
      refine wb_one (i := 9) (by simp only [List.getElem?_toArray, List.getElem?_cons_succ, List.getElem?_cons_zero] <;> rfl) (by kernel_rfl) (by rfl) (fun K hK => ?_)
      go_simp
      refine (HF _ hbw).out.mono ?_
      rintro e u1 ⟨rfl, hv1⟩
      refine hK _ _ (Kb.below hv1 (by intro q hq; rw [List.mem_singleton.1 hq]; exact hC.lt)) ?_
      replace hC := hC.below hv1
      replace hown := hown.below hv1
      replace hbw := hbw.trans (hv1.mono hbw.size)
      clear hK K hv1
      try simp only [Act.put, List.setIfInBounds_toArray, List.set_cons_zero, List.set_cons_succ]
      refine wb_one (i := 10) (by simp only [List.getElem?_toArray, List.getElem?_cons_succ, List.getElem?_cons_zero] <;> rfl) (by kernel_rfl) (by rfl) (fun K hK => ?_)
      go_simp
      refine hK _ _ (Kb.gb (World.grownBy_alloc _ _ none) (by intro q hq; rw [List.mem_singleton.1 hq]; exact ⟨hC.lt, by simp⟩)) ?_
      refine wb_new (cs := [.string ⟨x.toArray⟩]) (t := 9) (fun u3 hv3 hL3 hz3 => ?_)
      replace hC := hC.below hv3
      replace hown := hown.below hv3
      replace hbw := hbw.trans (hv3.mono hbw.size)
      clear hK K hv3 hz3
      try simp only [Act.put, List.setIfInBounds_toArray, List.set_cons_zero, List.set_cons_succ]
      refine wb_one (i := 11) (by simp only [List.getElem?_toArray, List.getElem?_cons_succ, List.getElem?_cons_zero] <;> rfl) (by kernel_rfl) (by rfl) (fun K hK => ?_)
      refine wp_app tyeStr _ _ rfl (w.heap.size + 1) _ _ [x] rfl hown ⟨_, 0, none⟩ 1 1 rfl rfl ?c1 ?c2 ?c3 ?_
      case c1 =>
        intro j u hj
        rw [Enc.cells_single] at hj
        rw [Addr.add_lit, Nat.zero_add]
        exact hL3.cell hj
      case c2 => have := hlen.out; rw [List.length_singleton]; omega
      case c3 => have := hC.lt; omega
      intro v3 x3 hown3 hg3 hd3
      clear hd3
      have hne3 := hne hown
      refine hK _ _ (Kb.gb hg3 (by intro q hq; rw [List.mem_singleton.1 hq]; exact ⟨hC.lt, hne3⟩)) ?_
      have hb3 : Below w.heap.size w x3 := hbw.grown hg3 hbw.size (fun k h => by have := (hown.lt k h).1; omega)
      replace hC : Blk x3 w.heap.size [.int .i64 bt, .int .i64 16] 119 := (hg3.block _ hC.lt hne3).trans hC
      clear hK K hg3 hown hbw hL3
      try simp only [Act.put, List.setIfInBounds_toArray, List.set_cons_zero, List.set_cons_succ]
      refine wb_pure (i := 12) (d := some 7) (v := ?_) (by simp only [List.getElem?_toArray, List.getElem?_cons_succ, List.getElem?_cons_zero] <;> rfl) (by rfl) (by kernel_rfl) (by kernel_rfl) (by kernel_rfl) (fun _ _ _ h => h) (by rfl) ?_ ?_
      rotate_left
      · ((intro u); go_simp; try with_reducible rfl)
      try simp only [Act.put, List.setIfInBounds_toArray, List.set_cons_zero, List.set_cons_succ]
      refine wb_done (by kernel_rfl) ?_ _
      skip
      have c0 := hC.cell (i := 0) (v := .int .i64 bt) rfl
      replace hb3 := Lib.hid hb3
      replace hown3 := Lib.hid hown3
      replace hC := Lib.hid hC
      clear HF hsl ha q5 q6 hlen hne hTW hne3 hdv
      go_wp2_with fail

      go_roundw
      case rel => exact ⟨k + 1, by omega, by go_num, by rw [← hnx.out]; first | rfl | (congr 1; omega), by rw [hsucc.out]; exact hown3.out, hC.out, hb3.out⟩
      case measure => simp [intOf]; omega
    · have hkm : k = m := by omega
      subst hkm
      obtain ⟨A', c', rfl, _⟩ := hown.sl
      go_wp2_with fail
      go_ret
      exact ⟨⟨_, rfl, OwnE.mono hown (by omega)⟩, hbw⟩
end Go.Proofs.YthjhokicojgpbaaGreatDoor
