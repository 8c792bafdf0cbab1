/- The address of a name of 34 labels, as the reference reads it. -/
import Derived.Test.YthjhokicojgpbaaGreatDoorKeNmR
namespace Go.Proofs.YthjhokicojgpbaaGreatDoor
open Go.RowKit
set_option linter.unusedVariables false
set_option linter.unusedSimpArgs false

def hex16 : List UInt8 := [48, 49, 50, 51, 52, 53, 54, 55, 56, 57, 97, 98, 99, 100, 101, 102]
theorem index_ltN {sub : List UInt8} (h : sub ≠ []) : ∀ s : List UInt8, Lib.index s sub < s.length
  | [] => by
    have : sub.isEmpty = false := by cases sub with
      | nil => exact absurd rfl h
      | cons _ _ => rfl
    unfold Lib.index; rw [this]; decide
  | b :: l => by
    have ih := index_ltN h l
    unfold Lib.index
    rw [List.length_cons]
    split
    · omega
    · split <;> omega
theorem index_16 (sub : List UInt8) : Lib.index hex16 sub < 16 := by
  by_cases h : sub = []
  · subst h; decide
  · exact index_ltN h hex16
def ixOk (d : Nat) : Bool := Lib.index hex16 [hexc d] == (d : Int)
theorem ix_all : ∀ d, d < 16 → ixOk d = true := by decide
theorem ix_is {d : Nat} (h : d < 16) : Lib.index hex16 [hexc d] = (d : Int) := by
  have := ix_all d h
  unfold ixOk at this
  exact beq_iff_eq.1 this
theorem ix_num (p : List UInt8) : ∃ y : Nat, max (Lib.index hex16 p) 0 = (y : Int) ∧ y < 16 ∧ ∀ d, d < baseD true → p = labD true d → y = d := by
  have h1 := index_16 p
  refine ⟨(max (Lib.index hex16 p) 0).toNat, by omega, by omega, fun d hd hp => ?_⟩
  rw [hp, show labD true d = [hexc d] from rfl, ix_is hd]
  omega
theorem sh16 {y k : Nat} (hy : y < 16) (hk : k < 16) : IntKind.u64.wrap ((y : Int) * 2 ^ Int.toNat (4 * (k : Int))) = ((y * 16 ^ k : Nat) : Int) ∧ y * 16 ^ k < 2 ^ 64 := by
  have h1 : Int.toNat (4 * (k : Int)) = 4 * k := by omega
  have h2 : (16 : Nat) ^ k = 2 ^ (4 * k) := by rw [Nat.pow_mul]
  have h3 : (16 : Nat) ^ k ≤ 16 ^ 15 := Nat.pow_le_pow_right (by decide) (by omega)
  have h4 : y * 16 ^ k ≤ 15 * 16 ^ 15 := Nat.mul_le_mul (by omega) h3
  have h5 : y * 16 ^ k < 2 ^ 64 := Nat.lt_of_le_of_lt h4 (by decide)
  refine ⟨?_, h5⟩
  rw [h1, IntKind.wrap_u64]
  have e : (y : Int) * 2 ^ (4 * k) = ((y * 16 ^ k : Nat) : Int) := by rw [h2]; push_cast; rfl
  rw [e]
  omega
theorem digP_64 {ls : List (List UInt8)} {z : Nat} (h : DigP true ls z) (hl : ls.length ≤ 16) : z < 2 ^ 64 :=
  Nat.lt_of_lt_of_le h.1 (Nat.pow_le_pow_right (by decide) hl)

set_option maxHeartbeats 4000000 in
set_option maxRecDepth 100000 in
theorem ofBack6_any (l : List UInt8) (w : World) (hC : Cons w) (hl : l.length ≤ 1000) (h6 : (pieces l 46).length = 34) :
    Calls Tryz.prog 17 #[.string ⟨l.toArray⟩] w fun e w' => ∃ v, e = .returned v ∧ RefP l v ∧ Below w.heap.size w w' := by
  have hbw : Below w.heap.size w (w.alloc (.cells #[.bool false, .int .u64 0, .int .u64 0] 28)) := (Below.refl _ _).alloc (Nat.le_refl _) _
  have hR := Blk.new w [.bool false, .int .u64 0, .int .u64 0] 28
  have hC' := Lib.hid hC
  have hps := Lib.hid (fun p (hp : p ∈ pieces l 46) => Nat.le_trans (pieces_short l 46 p hp) (Nat.le_trans hl (by decide : 1000 ≤ 100000)))
  have HS := Lib.hid (splitE_any l _ (hC.below hbw) (Nat.le_trans hl (by decide)))
  obtain ⟨ls, hls⟩ : ∃ ls, ls = pieces l 46 := ⟨_, rfl⟩
  rw [← hls] at HS hps h6
  replace hls := Lib.hid hls
  replace h6 := Lib.hid h6
  clear hC hl
  go_enter Tryz.func17, Tryz.ntmps17
  go_wp2_with fail
  refine HS.out.mono ?_
  rintro e w1 ⟨g, off, n, cap, rfl, hS, hn1, hn2, hb3⟩
  replace hR := hR.below hb3
  replace hbw := hbw.trans (hb3.mono hbw.size)
  have hn6 : n = 34 := by rw [hS.1, h6.out]
  subst hn6
  have hg1 := (hS.at' (k := 0) (by omega))
  obtain ⟨g', off', e, hgw, _⟩ := hg1
  cases e
  have hA := Blk.new w1 [.bool true, .int .u64 0, .int .u64 0] 28
  obtain ⟨pa, hpa⟩ : ∃ p, p = w1.heap.size := ⟨_, rfl⟩
  have hb4 : Below w1.heap.size w1 (w1.alloc (.cells [.bool true, .int .u64 0, .int .u64 0].toArray 28)) := (Below.refl _ _).alloc (Nat.le_refl _) _
  have hRw : w.heap.size < pa := by rw [hpa]; exact hR.lt
  replace hR := hR.below hb4
  replace hbw := hbw.trans (hb4.mono hbw.size)
  replace hS := hS.below hb4
  rw [← hpa] at hA hgw
  replace hpa := Lib.hid hpa
  clear hb3 hb4 hn1 hn2 HS
  go_wp2_with fail
  rw [← hpa.out]
  generalize World.alloc w1 _ = w2 at *
  go_loopw [43] (fun i wr => ∃ k zl zh : Nat, k ≤ 32 ∧ i = .int .i64 (k : Int) ∧ Blk wr pa [.bool true, .int .u64 (zh : Int), .int .u64 (zl : Int)] 28 ∧ Blk wr w.heap.size [.bool false, .int .u64 0, .int .u64 0] 28 ∧ SlE eStr wr (some ⟨g, off, none⟩) 34 cap ls ∧ Below w.heap.size w wr ∧ Hid (DigP true (ls.take (min k 16)) zl ∧ DigP true ((ls.drop 16).take (k - 16)) zh)) (fun i _ => 32 - (intOf i).toNat)
  case atStart => exact ⟨0, 0, 0, by omega, rfl, hA, hR, hS, hbw, Lib.hid ⟨digP_nil true, digP_nil true⟩⟩
  case round =>
    clear hA hR hS hbw
    obtain ⟨k, zl, zh, hk, rfl, hA, hR, hS, hbw, hI⟩ := hrel
    have hz64 := Lib.hid (show zl < 2 ^ 64 ∧ zh < 2 ^ 64 from ⟨digP_64 hI.out.1 (by rw [List.length_take]; omega), digP_64 hI.out.2 (by rw [List.length_take]; omega)⟩)
    by_cases hlt : k < 32
    · have hlt' : (k : Int) < 32 := by omega
      have hk6 : (k : Int) < 34 := by omega
      obtain ⟨p, hp⟩ : ∃ p, ls[k]? = some p := ⟨ls[k]'(by have := hS.1; omega), List.getElem?_eq_getElem _⟩
      obtain ⟨g', off', e, _, hc⟩ := hS.at' (k := k) (by omega)
      cases e
      have hcell := hc k p hp 0 (.string ⟨p.toArray⟩) rfl
      rw [show eStr.k = 1 from rfl, Nat.mul_one, Nat.add_zero] at hcell
      obtain ⟨m, hm⟩ := (hC'.out.below hbw).maxl
      have HX := Lib.hid (show Calls Tryz.prog 61 #[.string ⟨#[48, 49, 50, 51, 52, 53, 54, 55, 56, 57, 97, 98, 99, 100, 101, 102]⟩, .string ⟨p.toArray⟩] wr fun e w' => e = .returned (.int .i64 (Lib.index hex16 p)) ∧ w' = wr from Tryz.strings_Index ⟨#[48, 49, 50, 51, 52, 53, 54, 55, 56, 57, 97, 98, 99, 100, 101, 102]⟩ ⟨p.toArray⟩ m wr (by decide) hm)
      obtain ⟨y, hy, hy16, hyd⟩ := ix_num p
      obtain ⟨X, hX⟩ : ∃ X, X = Lib.index hex16 p := ⟨_, rfl⟩
      rw [← hX] at HX hy
      replace hX := Lib.hid hX
      replace hyd := Lib.hid hyd
      have hy64 : IntKind.u64.wrap (y : Int) = (y : Int) := by rw [IntKind.wrap_u64]; omega
      have hls := Lib.hid (show ls.length = 34 from h6.out)
      clear hc hm
      by_cases h16 : k < 16
      · have h16' : (k : Int) < 16 := by omega
        have hsh := sh16 hy16 h16
        have hnew1 := Lib.hid (show ls.take (min (k + 1) 16) = ls.take (min k 16) ++ [p] ∧ (ls.take (min k 16)).length = k ∧ (ls.drop 16).take (k + 1 - 16) = (ls.drop 16).take (k - 16) from ⟨by
          rw [Nat.min_eq_left (by omega), Nat.min_eq_left (by omega), List.take_add_one, hp]; rfl, by rw [List.length_take]; have := hls.out; omega, by
          rw [show k + 1 - 16 = 0 by omega, show k - 16 = 0 by omega]⟩)
        obtain ⟨Y, hY⟩ : ∃ Y, Y = y * 16 ^ k := ⟨_, rfl⟩
        rw [← hY] at hsh
        obtain ⟨hsh, hY64⟩ := hsh
        obtain ⟨Z, hZ⟩ : ∃ Z, Z = zl ||| Y := ⟨_, rfl⟩
        have hor : bits .or .u64 (zl : Int) (Y : Int) = (Z : Int) := by
          have := hz64.out.1
          rw [hZ, u64_or_nat zl Y (by omega) (by omega)]
        have hnew := Lib.hid (show DigP true (ls.take (min (k + 1) 16)) Z ∧ DigP true ((ls.drop 16).take (k + 1 - 16)) zh from by
          have h2 := digP_snoc hI.out.1 hy16 hyd.out
          rw [hnew1.out.2.1] at h2
          rw [hnew1.out.1, hnew1.out.2.2, hZ, hY]; exact ⟨h2, hI.out.2⟩)
        replace hY := Lib.hid hY
        replace hZ := Lib.hid hZ
        replace hY64 := Lib.hid hY64
        have hw8 : IntKind.i64.wrap (4 * (k : Int)) = 4 * (k : Int) := by rw [IntKind.wrap_i64]; omega
        have hlt0 := Lib.hid hlt
        replace hp := Lib.hid hp
        clear hlt hk h16 hy16
        go_wp2_with fail
        refine HX.out.mono ?_
        rintro e u1 ⟨rfl, rfl⟩
        clear HX hcell
        go_upto_region 19 with fail
        refine wb_begin ([pa]) [8] (by kernel_rfl) (fun u0 hb0' hz0' => ?_)
        replace hA := hA.below hb0'
        replace hR := hR.below hb0'
        replace hS := hS.below hb0'
        replace hbw := hbw.trans (hb0'.mono hbw.size)
        clear hb0' hz0'
        refine wb_pure (i := 0) (d := some 55) (v := ?_) (by simp only [List.getElem?_toArray, List.getElem?_cons_succ, List.getElem?_cons_zero] <;> rfl) (by rfl) (by kernel_rfl) (by kernel_rfl) (by kernel_rfl) (fun _ _ _ h => h) (by rfl) ?_ ?_
        rotate_left
        · ((intro u); go_simp; try with_reducible rfl)
        try simp only [Act.put, List.setIfInBounds_toArray, List.set_cons_zero, List.set_cons_succ]
        refine wb_take (i := 1) (d := some 56) (v := ?_) (by simp only [List.getElem?_toArray, List.getElem?_cons_succ, List.getElem?_cons_zero] <;> rfl) (by rfl) (by kernel_rfl) (by kernel_rfl) (by kernel_rfl) (fun _ _ _ h => h) (by rfl) (by kernel_rfl) ?_ ?_
        rotate_left
        · ((intro u hu); have kc := hA.kb hu (List.mem_singleton.2 rfl); have q2 := kc.cell (i := 2) (v := .int .u64 (zl : Int)) rfl; clear kc; go_simp; try with_reducible rfl)
        try simp only [Act.put, List.setIfInBounds_toArray, List.set_cons_zero, List.set_cons_succ]
        refine wb_pure (i := 2) (d := some 57) (v := ?_) (by simp only [List.getElem?_toArray, List.getElem?_cons_succ, List.getElem?_cons_zero] <;> rfl) (by rfl) (by kernel_rfl) (by kernel_rfl) (by kernel_rfl) (fun _ _ _ h => h) (by rfl) ?_ ?_
        rotate_left
        · ((intro u); go_simp; try with_reducible rfl)
        try simp only [Act.put, List.setIfInBounds_toArray, List.set_cons_zero, List.set_cons_succ]
        refine wb_pure (i := 3) (d := some 58) (v := ?_) (by simp only [List.getElem?_toArray, List.getElem?_cons_succ, List.getElem?_cons_zero] <;> rfl) (by rfl) (by kernel_rfl) (by kernel_rfl) (by kernel_rfl) (fun _ _ _ h => h) (by rfl) ?_ ?_
        rotate_left
        · ((intro u); go_simp; try with_reducible rfl)
        try simp only [Act.put, List.setIfInBounds_toArray, List.set_cons_zero, List.set_cons_succ]
        refine wb_pure (i := 4) (d := some 59) (v := ?_) (by simp only [List.getElem?_toArray, List.getElem?_cons_succ, List.getElem?_cons_zero] <;> rfl) (by rfl) (by kernel_rfl) (by kernel_rfl) (by kernel_rfl) (fun _ _ _ h => h) (by rfl) ?_ ?_
        rotate_left
        · ((intro u); go_simp; try with_reducible rfl)
        try simp only [Act.put, List.setIfInBounds_toArray, List.set_cons_zero, List.set_cons_succ]
        refine wb_pure (i := 5) (d := some 60) (v := ?_) (by simp only [List.getElem?_toArray, List.getElem?_cons_succ, List.getElem?_cons_zero] <;> rfl) (by rfl) (by kernel_rfl) (by kernel_rfl) (by kernel_rfl) (fun _ _ _ h => h) (by rfl) ?_ ?_
        rotate_left
        · ((intro u); go_simp; try with_reducible rfl)
        try simp only [Act.put, List.setIfInBounds_toArray, List.set_cons_zero, List.set_cons_succ]
        refine wb_pure (i := 6) (d := some 61) (v := ?_) (by simp only [List.getElem?_toArray, List.getElem?_cons_succ, List.getElem?_cons_zero] <;> rfl) (by rfl) (by kernel_rfl) (by kernel_rfl) (by kernel_rfl) (fun _ _ _ h => h) (by rfl) ?_ ?_
        rotate_left
        · ((intro u); go_simp; try with_reducible rfl)
        try simp only [Act.put, List.setIfInBounds_toArray, List.set_cons_zero, List.set_cons_succ]
        refine wb_pure (i := 7) (d := some 62) (v := ?_) (by simp only [List.getElem?_toArray, List.getElem?_cons_succ, List.getElem?_cons_zero] <;> rfl) (by rfl) (by kernel_rfl) (by kernel_rfl) (by kernel_rfl) (fun _ _ _ h => h) (by rfl) ?_ ?_
        rotate_left
        · ((intro u); go_simp; try with_reducible rfl)
        try simp only [Act.put, List.setIfInBounds_toArray, List.set_cons_zero, List.set_cons_succ]
        refine wb_store (i := 8) (by simp only [List.getElem?_toArray, List.getElem?_cons_succ, List.getElem?_cons_zero] <;> rfl) (by kernel_rfl) (by rfl) (by kernel_rfl) (fun K hK => ?_)
        have c2 := hA.cell (i := 2) (v := .int .u64 (zl : Int)) rfl
        have f2 := hA.free 2
        go_simp
        refine hK.out _ _ ?_
        clear hK K
        try simp only [Act.put, List.setIfInBounds_toArray, List.set_cons_zero, List.set_cons_succ]
        refine wb_done (by kernel_rfl) ?_ _
        skip
        have hA2 : Blk (u0.setCell ⟨pa, 2, none⟩ (.int .u64 (Z : Int))) pa [.bool true, .int .u64 (zh : Int), .int .u64 (Z : Int)] 28 := hA.set 2 (.int .u64 (Z : Int))
        have hR2 := hR.other (a := ⟨pa, 2, none⟩) (by show w.heap.size ≠ pa; omega) (.int .u64 (Z : Int))
        have hS2 := hS.from' (B := pa) (fun g' off' e => by cases e; exact hgw) ((Below.refl pa u0).setCell (p := ⟨pa, 2, none⟩) (Nat.le_refl _) (.int .u64 (Z : Int)))
        have hbw2 := hbw.setCell (p := ⟨pa, 2, none⟩) (by show w.heap.size ≤ pa; omega) (.int .u64 (Z : Int))
        clear hA hR hS hbw
        go_wp2_with fail
        go_roundw
        case rel => exact ⟨k + 1, Z, zh, by have := hlt0.out; omega, by go_num, hA2, hR2, hS2, hbw2, hnew⟩
        case measure => have := hlt0.out; simp [intOf]; omega

      · obtain ⟨kk, hkk⟩ : ∃ kk, kk = k - 16 := ⟨_, rfl⟩
        have hkk16 : kk < 16 := by omega
        have h16' : ¬ (k : Int) < 16 := by omega
        have hsh := sh16 hy16 hkk16
        have hnew1 := Lib.hid (show (ls.drop 16).take (k + 1 - 16) = (ls.drop 16).take (k - 16) ++ [p] ∧ ((ls.drop 16).take (k - 16)).length = kk ∧ ls.take (min (k + 1) 16) = ls.take (min k 16) from ⟨by
          rw [show k + 1 - 16 = (k - 16) + 1 by omega, List.take_add_one, List.getElem?_drop, show 16 + (k - 16) = k by omega, hp]; rfl, by rw [List.length_take, List.length_drop]; have := hls.out; omega, by
          rw [Nat.min_eq_right (by omega), Nat.min_eq_right (by omega)]⟩)
        obtain ⟨Y, hY⟩ : ∃ Y, Y = y * 16 ^ kk := ⟨_, rfl⟩
        rw [← hY] at hsh
        obtain ⟨hsh, hY64⟩ := hsh
        obtain ⟨Z, hZ⟩ : ∃ Z, Z = zh ||| Y := ⟨_, rfl⟩
        have hor : bits .or .u64 (zh : Int) (Y : Int) = (Z : Int) := by
          have := hz64.out.2
          rw [hZ, u64_or_nat zh Y (by omega) (by omega)]
        have hnew := Lib.hid (show DigP true (ls.take (min (k + 1) 16)) zl ∧ DigP true ((ls.drop 16).take (k + 1 - 16)) Z from by
          have h2 := digP_snoc hI.out.2 hy16 hyd.out
          rw [hnew1.out.2.1] at h2
          rw [hnew1.out.1, hnew1.out.2.2, hZ, hY]; exact ⟨hI.out.1, h2⟩)
        replace hY := Lib.hid hY
        replace hZ := Lib.hid hZ
        replace hY64 := Lib.hid hY64
        have hki : (k : Int) - 16 = (kk : Int) := by omega
        have hw6 : IntKind.i64.wrap ((k : Int) - 16) = (kk : Int) := by rw [IntKind.wrap_i64]; omega
        have hw7 : IntKind.i64.wrap (kk : Int) = (kk : Int) := by rw [IntKind.wrap_i64]; omega
        have hw8 : IntKind.i64.wrap (4 * (kk : Int)) = 4 * (kk : Int) := by rw [IntKind.wrap_i64]; omega
        have hlt0 := Lib.hid hlt
        replace hp := Lib.hid hp
        replace hkk := Lib.hid hkk
        clear hlt hk h16 hy16
        go_wp2_with fail
        refine HX.out.mono ?_
        rintro e u1 ⟨rfl, rfl⟩
        clear HX hcell
        go_upto_region 20 with fail
        refine wb_begin ([pa]) [9] (by kernel_rfl) (fun u0 hb0' hz0' => ?_)
        replace hA := hA.below hb0'
        replace hR := hR.below hb0'
        replace hS := hS.below hb0'
        replace hbw := hbw.trans (hb0'.mono hbw.size)
        clear hb0' hz0'
        refine wb_pure (i := 0) (d := some 63) (v := ?_) (by simp only [List.getElem?_toArray, List.getElem?_cons_succ, List.getElem?_cons_zero] <;> rfl) (by rfl) (by kernel_rfl) (by kernel_rfl) (by kernel_rfl) (fun _ _ _ h => h) (by rfl) ?_ ?_
        rotate_left
        · ((intro u); go_simp; try with_reducible rfl)
        try simp only [Act.put, List.setIfInBounds_toArray, List.set_cons_zero, List.set_cons_succ]
        refine wb_take (i := 1) (d := some 64) (v := ?_) (by simp only [List.getElem?_toArray, List.getElem?_cons_succ, List.getElem?_cons_zero] <;> rfl) (by rfl) (by kernel_rfl) (by kernel_rfl) (by kernel_rfl) (fun _ _ _ h => h) (by rfl) (by kernel_rfl) ?_ ?_
        rotate_left
        · ((intro u hu); have kc := hA.kb hu (List.mem_singleton.2 rfl); have q2 := kc.cell (i := 1) (v := .int .u64 (zh : Int)) rfl; clear kc; go_simp; try with_reducible rfl)
        try simp only [Act.put, List.setIfInBounds_toArray, List.set_cons_zero, List.set_cons_succ]
        refine wb_pure (i := 2) (d := some 65) (v := ?_) (by simp only [List.getElem?_toArray, List.getElem?_cons_succ, List.getElem?_cons_zero] <;> rfl) (by rfl) (by kernel_rfl) (by kernel_rfl) (by kernel_rfl) (fun _ _ _ h => h) (by rfl) ?_ ?_
        rotate_left
        · ((intro u); go_simp; try with_reducible rfl)
        try simp only [Act.put, List.setIfInBounds_toArray, List.set_cons_zero, List.set_cons_succ]
        refine wb_pure (i := 3) (d := some 66) (v := ?_) (by simp only [List.getElem?_toArray, List.getElem?_cons_succ, List.getElem?_cons_zero] <;> rfl) (by rfl) (by kernel_rfl) (by kernel_rfl) (by kernel_rfl) (fun _ _ _ h => h) (by rfl) ?_ ?_
        rotate_left
        · ((intro u); go_simp; try with_reducible rfl)
        try simp only [Act.put, List.setIfInBounds_toArray, List.set_cons_zero, List.set_cons_succ]
        refine wb_pure (i := 4) (d := some 67) (v := ?_) (by simp only [List.getElem?_toArray, List.getElem?_cons_succ, List.getElem?_cons_zero] <;> rfl) (by rfl) (by kernel_rfl) (by kernel_rfl) (by kernel_rfl) (fun _ _ _ h => h) (by rfl) ?_ ?_
        rotate_left
        · ((intro u); go_simp; try with_reducible rfl)
        try simp only [Act.put, List.setIfInBounds_toArray, List.set_cons_zero, List.set_cons_succ]
        refine wb_pure (i := 5) (d := some 68) (v := ?_) (by simp only [List.getElem?_toArray, List.getElem?_cons_succ, List.getElem?_cons_zero] <;> rfl) (by rfl) (by kernel_rfl) (by kernel_rfl) (by kernel_rfl) (fun _ _ _ h => h) (by rfl) ?_ ?_
        rotate_left
        · ((intro u); go_simp; try with_reducible rfl)
        try simp only [Act.put, List.setIfInBounds_toArray, List.set_cons_zero, List.set_cons_succ]
        refine wb_pure (i := 6) (d := some 69) (v := ?_) (by simp only [List.getElem?_toArray, List.getElem?_cons_succ, List.getElem?_cons_zero] <;> rfl) (by rfl) (by kernel_rfl) (by kernel_rfl) (by kernel_rfl) (fun _ _ _ h => h) (by rfl) ?_ ?_
        rotate_left
        · ((intro u); go_simp; try with_reducible rfl)
        try simp only [Act.put, List.setIfInBounds_toArray, List.set_cons_zero, List.set_cons_succ]
        refine wb_pure (i := 7) (d := some 70) (v := ?_) (by simp only [List.getElem?_toArray, List.getElem?_cons_succ, List.getElem?_cons_zero] <;> rfl) (by rfl) (by kernel_rfl) (by kernel_rfl) (by kernel_rfl) (fun _ _ _ h => h) (by rfl) ?_ ?_
        rotate_left
        · ((intro u); go_simp; try with_reducible rfl)
        try simp only [Act.put, List.setIfInBounds_toArray, List.set_cons_zero, List.set_cons_succ]
        refine wb_pure (i := 8) (d := some 71) (v := ?_) (by simp only [List.getElem?_toArray, List.getElem?_cons_succ, List.getElem?_cons_zero] <;> rfl) (by rfl) (by kernel_rfl) (by kernel_rfl) (by kernel_rfl) (fun _ _ _ h => h) (by rfl) ?_ ?_
        rotate_left
        · ((intro u); go_simp; try with_reducible rfl)
        try simp only [Act.put, List.setIfInBounds_toArray, List.set_cons_zero, List.set_cons_succ]
        refine wb_store (i := 9) (by simp only [List.getElem?_toArray, List.getElem?_cons_succ, List.getElem?_cons_zero] <;> rfl) (by kernel_rfl) (by rfl) (by kernel_rfl) (fun K hK => ?_)
        have c2 := hA.cell (i := 1) (v := .int .u64 (zh : Int)) rfl
        have f2 := hA.free 1
        go_simp
        refine hK.out _ _ ?_
        clear hK K
        try simp only [Act.put, List.setIfInBounds_toArray, List.set_cons_zero, List.set_cons_succ]
        refine wb_done (by kernel_rfl) ?_ _
        skip
        have hA2 : Blk (u0.setCell ⟨pa, 1, none⟩ (.int .u64 (Z : Int))) pa [.bool true, .int .u64 (Z : Int), .int .u64 (zl : Int)] 28 := hA.set 1 (.int .u64 (Z : Int))
        have hR2 := hR.other (a := ⟨pa, 1, none⟩) (by show w.heap.size ≠ pa; omega) (.int .u64 (Z : Int))
        have hS2 := hS.from' (B := pa) (fun g' off' e => by cases e; exact hgw) ((Below.refl pa u0).setCell (p := ⟨pa, 1, none⟩) (Nat.le_refl _) (.int .u64 (Z : Int)))
        have hbw2 := hbw.setCell (p := ⟨pa, 1, none⟩) (by show w.heap.size ≤ pa; omega) (.int .u64 (Z : Int))
        clear hA hR hS hbw
        go_wp2_with fail
        go_roundw
        case rel => exact ⟨k + 1, zl, Z, by have := hlt0.out; omega, by go_num, hA2, hR2, hS2, hbw2, hnew⟩
        case measure => have := hlt0.out; simp [intOf]; omega

    · have hk32 : k = 32 := by omega
      subst hk32
      clear hlt hk hgw
      have hzl := hz64.out.1
      have hzh := hz64.out.2
      have hR0 := Lib.hid (show RightN true zh zl from ⟨hzh, hzl, fun e => by cases e⟩)
      have HB := Lib.hid (backName6_any zh zl wr hzh hzl)
      obtain ⟨T, hT⟩ : ∃ T, T = backL true zh zl := ⟨_, rfl⟩
      rw [← hT] at HB
      have hno := Lib.hid (show T ≠ l → RefP l (.tuple #[adV false 0 0, .bool false]) from fun hne => .inr ⟨fun t h0 l0 hRt hlt => by
        have hlen := pieces_backlen t h0 l0
        rw [← hlt, ← hls.out, h6.out] at hlen
        cases t with
        | false => cases hlen
        | true =>
          have hp : ls = (digs 16 l0 16).map (labD true) ++ ((digs 16 h0 16).map (labD true) ++ tailD true) := by
            rw [hls.out, hlt, pieces_back, ← List.append_assoc, ← List.map_append]; rfl
          have ht : ls.take (min 32 16) = (digs 16 l0 16).map (labD true) := by
            rw [hp]; exact List.take_left' (by rw [List.length_map, digs_len]; rfl)
          have hd : (ls.drop 16).take (32 - 16) = (digs 16 h0 16).map (labD true) := by
            rw [hp, List.drop_left' (by rw [List.length_map, digs_len])]; exact List.take_left' (by rw [List.length_map, digs_len])
          have h1 := hI.out.1.2 (digs 16 l0 16) (fun d hd => digs_lt (by decide) hd) ht
          have h2 := hI.out.2.2 (digs 16 h0 16) (fun d hd => digs_lt (by decide) hd) hd
          have e1 : zl = l0 := by rw [h1]; exact digs_num hRt.2.1
          have e2 : zh = h0 := by rw [h2]; exact digs_num hRt.1
          exact hne (by rw [hT, hlt, e1, e2]), rfl⟩)
      have hyes := Lib.hid (show T = l → RefP l (.tuple #[adV true (zh : Int) (zl : Int), .bool true]) from fun he => .inl ⟨true, zh, zl, hR0.out, by rw [← he, hT], rfl⟩)
      clear hT hI hS hzl hzh
      obtain ⟨a0, a1, a2, g0, g1, g2⟩ := hA.three
      by_cases hTl : T = l
      · have hfin := Lib.hid (hyes.out hTl)
        subst hTl
        go_wp2_with fail

        refine HB.out.mono ?_
        rintro e w5 ⟨rfl, hb⟩
        replace hA := hA.below hb
        replace hR := hR.below hb
        replace hbw := hbw.trans (hb.mono hbw.size)
        clear hb HB a0 a1 a2 g0 g1 g2
        obtain ⟨a0, a1, a2, g0, g1, g2⟩ := hA.three
        obtain ⟨u0, u1, u2, f0, f1, f2⟩ := hR.three
        go_wp2_with fail
        refine bodyPost_ret (v := .tuple #[adV true (zh : Int) (zl : Int), .bool true]) ?_ rfl ⟨_, rfl, hfin.out, below_3n hbw (Nat.le_refl _) _ _ _⟩
        simp [results, Tryz.results17, go_sem, u0, u1, u2, adV]

      · have hfin := Lib.hid (hno.out hTl)
        have hne : (T == l) = false := beq_eq_false_iff_ne.2 hTl
        go_wp2_with fail

        refine HB.out.mono ?_
        rintro e w5 ⟨rfl, hb⟩
        replace hA := hA.below hb
        replace hR := hR.below hb
        replace hbw := hbw.trans (hb.mono hbw.size)
        clear hb HB a0 a1 a2 g0 g1 g2
        obtain ⟨a0, a1, a2, g0, g1, g2⟩ := hA.three
        obtain ⟨u0, u1, u2, f0, f1, f2⟩ := hR.three
        go_wp2_with fail
        refine bodyPost_ret (v := .tuple #[adV false 0 0, .bool false]) ?_ rfl ⟨_, rfl, hfin.out, below_3n hbw (Nat.le_refl _) _ _ _⟩
        simp [results, Tryz.results17, go_sem, u0, u1, u2, adV]

theorem ofBackN_any (l : List UInt8) (w : World) (hC : Cons w) (hl : l.length ≤ 1000) (h6 : (pieces l 46).length ≠ 6) (h34 : (pieces l 46).length ≠ 34) :
    Calls Tryz.prog 17 #[.string ⟨l.toArray⟩] w fun e w' => ∃ v, e = .returned v ∧ RefP l v ∧ Below w.heap.size w w' := by
  have hbw : Below w.heap.size w (w.alloc (.cells #[.bool false, .int .u64 0, .int .u64 0] 28)) := (Below.refl _ _).alloc (Nat.le_refl _) _
  have hR := Blk.new w [.bool false, .int .u64 0, .int .u64 0] 28
  have HS := Lib.hid (splitE_any l _ (hC.below hbw) (Nat.le_trans hl (by decide)))
  have hfin := Lib.hid (show RefP l (.tuple #[adV false 0 0, .bool false]) from .inr ⟨fun t h0 l0 hRt hlt => by
    have hlen := pieces_backlen t h0 l0
    rw [← hlt] at hlen
    cases t
    · exact h6 hlen
    · exact h34 hlen, rfl⟩)
  obtain ⟨ls, hls⟩ : ∃ ls, ls = pieces l 46 := ⟨_, rfl⟩
  rw [← hls] at HS h6 h34
  replace h6 := Lib.hid h6
  replace h34 := Lib.hid h34
  clear hC hl hls
  go_enter Tryz.func17, Tryz.ntmps17
  go_wp2_with fail
  refine HS.out.mono ?_
  rintro e w1 ⟨g, off, n, cap, rfl, hS, hn1, hn2, hb3⟩
  replace hR := hR.below hb3
  replace hbw := hbw.trans (hb3.mono hbw.size)
  have hn6 : ¬ (n : Int) = 6 := by have := h6.out; have := hS.1; omega
  have hn34 : ¬ (n : Int) = 34 := by have := h34.out; have := hS.1; omega
  have hn6' : n ≠ 6 := by omega
  have hn34' : n ≠ 34 := by omega
  have hb4 : Below w1.heap.size w1 (w1.alloc (.cells [.bool false, .int .u64 0, .int .u64 0].toArray 28)) := (Below.refl _ _).alloc (Nat.le_refl _) _
  replace hR := hR.below hb4
  replace hbw := hbw.trans (hb4.mono hbw.size)
  obtain ⟨u0, u1, u2, f0, f1, f2⟩ := hR.three
  clear hb3 hb4 hn1 hn2 HS hS
  go_wp2_with fail
  refine bodyPost_ret (v := .tuple #[adV false 0 0, .bool false]) ?_ rfl ⟨_, rfl, hfin.out, below_3n hbw (Nat.le_refl _) _ _ _⟩
  simp [results, Tryz.results17, go_sem, u0, u1, u2, adV]
theorem ofBack_any (l : List UInt8) (w : World) (hC : Cons w) (hl : l.length ≤ 1000) :
    Calls Tryz.prog 17 #[.string ⟨l.toArray⟩] w fun e w' => ∃ v, e = .returned v ∧ RefP l v ∧ Below w.heap.size w w' := by
  by_cases h6 : (pieces l 46).length = 6
  · exact ofBack4_any l w hC hl h6
  · by_cases h34 : (pieces l 46).length = 34
    · exact ofBack6_any l w hC hl h34
    · exact ofBackN_any l w hC hl h6 h34
end Go.Proofs.YthjhokicojgpbaaGreatDoor
