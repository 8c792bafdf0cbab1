/- The reference's text of an address of 128 bits. -/
import Derived.Test.YtkldcmmlllkhkaaGreatDoorKqGzA
import Derived.Test.YtkldcmmlllkhkaaGreatDoorKqTxtH
import Derived.Test.YtkldcmmlllkhkaaGreatDoorKqTxtG
set_option maxRecDepth 100000
namespace Go.Proofs.YtkldcmmlllkhkaaGreatDoor
open Go.RowKit

theorem nz_hex (g : Nat) (h : g < 65536) : nz (hexL g) = !(g == 0) := by
  unfold nz
  by_cases h0 : g = 0
  · have := (hexL_zero g h).2 h0
    rw [h0] at this ⊢
    simp [this]
  · have : hexL g ≠ [48] := fun e => h0 ((hexL_zero g h).1 e)
    simp [this, h0]
theorem any_nz : ∀ gs : List Nat, (∀ g ∈ gs, g < 65536) → (gs.map hexL).any nz = !(flagsZ gs).all id
  | [], _ => rfl
  | g :: r, h => by
    have h1 := any_nz r (fun x hx => h x (List.mem_cons_of_mem _ hx))
    have h2 := nz_hex g (h g (List.mem_cons_self ..))
    simp only [flagsZ, List.map_cons, List.any_cons, List.all_cons, id] at h1 ⊢
    rw [h1, h2, Bool.not_and]
theorem any_mid (gs : List Nat) (h : ∀ g ∈ gs, g < 65536) (n i : Nat) : (((gs.drop i).take n).map hexL).any nz = !allZ (flagsZ gs) n i := by
  rw [any_nz _ (fun g hg => h g (List.mem_of_mem_drop (List.mem_of_mem_take hg)))]
  simp [allZ, flagsZ, List.map_drop, List.map_take]

def leftI (z : List Bool) (n i : Nat) : Option (Nat × Nat) := match refI z n (9 - n - i) with
  | some p => some p
  | none => refN z (n - 2)
theorem left_outer (z : List Bool) (n : Nat) (h2 : 2 ≤ n) (h8 : n ≤ 8) : refN z (n - 1) = leftI z n 0 := by
  obtain ⟨q, rfl⟩ : ∃ q, n = q + 2 := ⟨n - 2, by omega⟩
  show refN z (q + 1) = _
  unfold leftI
  rw [refN, show 9 - (q + 2) - 0 = 7 - q by omega]
  rfl
theorem left_hit (z : List Bool) (n i : Nat) (h : i + n ≤ 8) (ha : allZ z n i = true) : leftI z n i = some (i, n) := by
  unfold leftI
  rw [show 9 - n - i = (8 - n - i) + 1 by omega, refI, show 8 - n - (8 - n - i) = i by omega, if_pos ha]
theorem left_miss (z : List Bool) (n i : Nat) (h : i + n ≤ 8) (ha : allZ z n i = false) : leftI z n i = leftI z n (i + 1) := by
  unfold leftI
  rw [show 9 - n - i = (8 - n - i) + 1 by omega, refI, show 8 - n - (8 - n - i) = i by omega, ha, show 9 - n - (i + 1) = 8 - n - i by omega]
  rfl
theorem left_end (z : List Bool) (n i : Nat) (h : i + n = 9) : leftI z n i = refN z (n - 1 - 1) := by
  unfold leftI
  rw [show 9 - n - i = 0 by omega, refI]
  rfl

set_option linter.unusedSimpArgs false in
set_option maxHeartbeats 4000000 in
theorem addrTextR_six (hi lo : Int) (w : World) (htab : Tabs w) (h1 : 0 ≤ hi) (h2 : hi < 18446744073709551616) (h3 : 0 ≤ lo) (h4 : lo < 18446744073709551616) :
    Calls Tryz.prog 55 #[.agg #[.bool true, .int .u64 hi, .int .u64 lo]] w (GivesV (sv (sixText (zTwo (lzTo (flagsZ (grps (num hi lo))) 8)) (grps (num hi lo)))) w) := by
  have HG := fun w' => Lib.hid (groupsR_any true hi lo w' h1 h2 h3 h4)
  obtain ⟨G, hG⟩ : ∃ G, G = grps (num hi lo) := ⟨_, rfl⟩
  have g8 : G.length = 8 := by rw [hG]; exact grps_len _
  have gl : ∀ g ∈ G, g < 65536 := by rw [hG]; exact grps_lt _
  rw [← hG] at HG ⊢
  rw [← ref_lz (flagsZ G) (by rw [flagsZ_length, g8])]
  obtain ⟨R, hR⟩ : ∃ R, R = refN (flagsZ G) 7 := ⟨_, rfl⟩
  rw [← hR]
  have HR := Lib.hid hR
  clear hG hR
  replace g8 := Lib.hid g8
  replace gl := Lib.hid gl
  have ht0 := Lib.hid htab
  have hb0 : Below w.heap.size w (w.alloc (.cells #[.bool true, .int .u64 hi, .int .u64 lo] 39)) := (Below.refl _ _).alloc (Nat.le_refl _) _
  have hs0 := hb0.size
  obtain ⟨i0, hi0, hz0, hz1, hz2⟩ := info_parts info_str'
  go_enter Tryz.func55, Tryz.ntmps55
  go_wp2_with fail
  refine (HG _).out.mono ?_
  rintro e w1 ⟨A, cap, rfl, hS, hb1⟩
  rw [g8.out] at hS ⊢
  have hw1 := hb0.trans (hb1.mono hs0)
  clear hb1
  have hsz1 := hw1.size
  have ht1 := Lib.hid (ht0.out.below hw1)
  go_wp2_with fail
  obtain ⟨wo, hwo⟩ : ∃ wo : World, wo = w1 := ⟨_, rfl⟩
  go_loopw [7, 46] (fun v i wr => ∃ k : Nat, k ≤ 8 ∧ i = .int .i64 k ∧ wr.ownsRow w1.heap.size 9 1 v k ((G.take k).map fun g => sv (hexL g)) ∧ Below w1.heap.size w1 wr) (fun _ i _ => 8 - (intOf i).toNat)
  case atStart => exact ⟨0, Nat.zero_le _, rfl, World.ownsRow_nil _ _ _ _, Below.refl _ _⟩
  case round =>
    obtain ⟨k, hk, rfl, hown, hbw⟩ := hrel
    clear hwo
    by_cases hlt : k < 8
    · obtain ⟨g, hgk⟩ : ∃ g, G[k]? = some g := ⟨G[k]'(by rw [g8.out]; omega), List.getElem?_eq_getElem _⟩
      have hg16 := gl.out g (List.mem_of_getElem? hgk)
      obtain ⟨b, off, rfl, hb, hc⟩ : ∃ b off, A = some ⟨b, off, none⟩ ∧ b < w1.heap.size ∧ ∀ j u, (G.map fun (g : Nat) => Value.int .i64 (g : Int))[j]? = some u → w1.cell? ⟨b, off + j, none⟩ = some u := by
        rcases hS.2.2 with h | h
        · omega
        · exact h
      have hcell : wr.cell? ⟨b, off + k, none⟩ = some (.int .i64 (g : Int)) := by
        rw [hbw.cell (by exact hb)]; exact hc k _ (by rw [List.getElem?_map, hgk]; rfl)
      have HF := Lib.hid (fmtI16 g hg16 wr (ht1.out.below hbw))
      have HT := Lib.hid (take_next hgk)
      have hsz := hbw.size
      have hlt' : (k : Int) < 8 := by omega
      clear hc hgk
      go_wp2_with fail
      refine HF.out.mono ?_
      rintro e w2 ⟨rfl, hb2⟩
      have hown1 := own_below hown hb2
      have hbw1 := hbw.trans (hb2.mono hsz)
      clear hb2 hcell
      go_wp2_with (at_builtin; refine wpList_append_own _ rfl _ _ 110 rfl w1.heap.size 9 i0 (.string ⟨#[]⟩) 1 16 Tryz.underlying110 hi0 hz0 hz1 hz2 rfl (by decide) _ _ _ rfl (hown1.alloc _) ⟨w2.heap.size, 0, none⟩ 1 1 [sv (hexL g)] rfl rfl ?c1 ?c2 ?c3 ?c4 ?c5 ?_)
      case c1 => exact cell_one_new _ _ _
      case c2 => simp; rfl
      case c3 => unfold maxLen; omega
      case c4 => omega
      case c5 => have := hbw1.size; simp; omega
      intro v3 w3 hown3 hg3 _
      have hbw3 : Below w1.heap.size w1 w3 := (hbw1.alloc hbw1.size _).grown hg3 (by have := hbw1.size; simp; omega) (fun k h => (hown1.lt k h).1)
      clear hg3 hown hown1 hbw hbw1 HF
      go_wp2_with fail
      go_roundw
      case rel => exact ⟨k + 1, by omega, by go_num, by rw [← List.map_take] at hown3; rw [HT.out, List.map_append]; exact hown3, hbw3⟩
      case measure => simp [intOf]; omega
    · obtain rfl : k = 8 := by omega
      obtain ⟨A', cap', rfl, hS'⟩ := Sl.of_own hown
      rw [List.take_of_length_le (by rw [g8.out]; omega)] at hS'
      have hyw : Below w.heap.size w wr := hw1.trans (hbw.mono hsz1)
      have hT' : Sl wr A' 8 cap' ((G.map hexL).map sv) := by rw [List.map_map]; exact hS'
      have hcap := hT'.2.1
      have H9 : ∀ i n : Nat, i + n ≤ 8 → Hid (Calls Tryz.prog 85 #[.slice (tailA A' i cap') n (cap' - i), .func (.func 86) #[] #[]] wr fun e w' => e = .returned (.bool (!allZ (flagsZ G) n i)) ∧ wr = w') := fun i n h => by
        have hm := (hT'.tail (k := i) (by omega)).head (k := n) (by omega)
        rw [← List.map_drop, ← List.map_take, ← List.map_drop, ← List.map_take] at hm
        have := containsF_any _ n _ _ wr (by omega) hm
        rw [any_mid G gl.out] at this
        exact Lib.hid this
      have HJ := Lib.hid (join_any A' 8 cap' (G.map hexL) [58] wr hT' (by omega) (joinHex_len G (by rw [g8.out]; omega)))
      have hs23 : ∀ i n : Nat, i + n ≤ 8 → ∀ W, (Instr.slice 110 (.slice A' 8 cap') (some (.int .i64 (i : Int))) (some (.int .i64 ((i : Int) + (n : Int)))) none).run Tryz.prog W = .ok (.slice (tailA A' i cap') n (cap' - i)) W := fun i n h W => by
        have := slice_mid 110 (by kernel_rfl) (fun W => by kernel_rfl) A' 8 cap' i (i + n) (by omega) (by omega) W
        rw [Int.natCast_add, Nat.add_sub_cancel_left] at this
        exact this
      have HS23 := Lib.hid hs23
      have HT' := Lib.hid hT'
      clear hs23 hT' hS' hown hS
      go_wp2_with fail
      go_loop [10] (fun c => ∃ n : Nat, 1 ≤ n ∧ n ≤ 8 ∧ c = .int .i64 n ∧ Hid (refN (flagsZ G) (n - 1) = R)) (fun c => (intOf c).toNat)
      case atStart => exact ⟨8, by omega, by omega, rfl, Lib.hid HR.out.symm⟩
      case round =>
        obtain ⟨n, hn1, hn8, rfl, hL⟩ := hrel
        by_cases hn2 : 2 ≤ n
        · have hn2' : 2 ≤ (n : Int) := by omega
          replace hL : Hid (leftI (flagsZ G) n 0 = R) := Lib.hid (by rw [← left_outer _ n hn2 hn8]; exact hL.out)
          go_wp2_with fail
          go_loop [11] (fun c => ∃ i : Nat, i + n ≤ 9 ∧ c = .int .i64 i ∧ Hid (leftI (flagsZ G) n i = R)) (fun c => 9 - (intOf c).toNat)
          case atStart => exact ⟨0, by omega, rfl, hL⟩
          case round =>
            obtain ⟨i, hi9, rfl, hM⟩ := hrel
            by_cases hin : i + n ≤ 8
            · have hin' : (i : Int) + (n : Int) ≤ 8 := by omega
              have hs2 := HS23.out i n hin
              have HC := H9 i n hin
              cases ha : allZ (flagsZ G) n i
              · rw [ha] at HC
                have hnext := Lib.hid ((left_miss _ n i hin ha).symm.trans hM.out)
                clear ha
                go_wp2_with fail
                refine HC.out.mono ?_
                rintro e w5 ⟨rfl, rfl⟩
                go_wp2_with fail
                go_round
                case rel => exact ⟨i + 1, by omega, by go_num, hnext⟩
                case measure => simp [intOf]; omega
              · rw [ha] at HC
                have hhit := Lib.hid ((left_hit _ n i hin ha).symm.trans hM.out)
                clear ha
                obtain ⟨m, hm⟩ : ∃ m, m = i + n := ⟨_, rfl⟩
                obtain ⟨L1, hL1⟩ : ∃ L, L = Lib.join ((G.take i).map hexL) [58] := ⟨_, rfl⟩
                obtain ⟨L2, hL2⟩ : ∃ L, L = Lib.join ((G.drop m).map hexL) [58] := ⟨_, rfl⟩
                have j1 := joinHex_len (G.take i) (by simp; omega)
                have j2 := joinHex_len (G.drop m) (by simp [g8.out])
                have HA := Lib.hid (fun u (hu : wr.grownBy u none) => join_any A' i cap' ((G.take i).map hexL) [58] u (by have := (HT'.out.below (gb2B hu)).head (k := i) (by omega); rw [← List.map_take, ← List.map_take] at this; exact this) (by omega) j1)
                have HB := Lib.hid (fun u (hu : wr.grownBy u none) => join_any (tailA A' m cap') (8 - m) (cap' - m) ((G.drop m).map hexL) [58] u (by have := (HT'.out.below (gb2B hu)).tail (k := m) (by omega); rw [← List.map_drop, ← List.map_drop] at this; exact this) (by omega) j2)
                rw [← hL1] at HA j1
                rw [← hL2] at HB j2
                have HE : Hid (sv (sixText R G) = sv (L1 ++ [58, 58] ++ L2)) := Lib.hid (by rw [← hhit.out, hL1, hL2, hm]; rfl)
                have hs3 := fun W => slice_head 110 (by kernel_rfl) (fun W => by kernel_rfl) A' 8 cap' i (by omega) W
                have hs4 := fun W => slice_tail 110 (by kernel_rfl) (fun W => by kernel_rfl) A' 8 cap' m (by omega) W
                have k1 : ¬ 9223372036854775807 < L1.length + 2 := by omega
                have k2 : ¬ 9223372036854775807 < L1.length + 2 + L2.length := by omega
                have Hw : Hid (IntKind.i64.wrap ((i : Int) + (n : Int)) = (m : Int)) := Lib.hid (by rw [IntWalk.i64_in _ (by omega)]; omega)
                have hB := gb_refl wr none
                replace hL1 := Lib.hid hL1
                replace hL2 := Lib.hid hL2
                replace hm := Lib.hid hm
                go_wp2_with fail
                refine HC.out.mono ?_
                rintro e w5 ⟨rfl, rfl⟩
                go_wp2_with fail
                have hw := Hw.out
                refine ways_begin (none) (by kernel_rfl) ?_
                replace hB := gb_drew hB
                refine ways_take (i := 0) (d := some 74) (v := ?_) (by simp only [gzA, gzB, gzC] <;> rfl) (by rfl) (by kernel_rfl) (by kernel_rfl) (by kernel_rfl) (fun _ _ _ h => h) (by rfl) ?_ ?_; rotate_left; · (intro u hu; go_simp; try with_reducible rfl)
                try simp only [Act.put, gzD, gzE, gzF]
                refine ways_take (i := 1) (d := some 75) (v := ?_) (by simp only [gzA, gzB, gzC] <;> rfl) (by rfl) (by kernel_rfl) (by kernel_rfl) (by kernel_rfl) (fun _ _ _ h => h) (by rfl) ?_ ?_; rotate_left; · (intro u hu; go_simp; try with_reducible rfl)
                try simp only [Act.put, gzD, gzE, gzF]
                refine ways_take (i := 2) (d := some 76) (v := ?_) (by simp only [gzA, gzB, gzC] <;> rfl) (by rfl) (by kernel_rfl) (by kernel_rfl) (by kernel_rfl) (fun _ _ _ h => h) (by rfl) ?_ ?_; rotate_left; · (intro u hu; go_simp; try with_reducible rfl)
                try simp only [Act.put, gzD, gzE, gzF]
                refine ways_take (i := 5) (d := some 79) (v := ?_) (by simp only [gzA, gzB, gzC] <;> rfl) (by rfl) (by kernel_rfl) (by kernel_rfl) (by kernel_rfl) (fun _ _ _ h => h) (by rfl) ?_ ?_; rotate_left; · (intro u hu; go_simp; try with_reducible rfl)
                try simp only [Act.put, gzD, gzE, gzF]
                refine ways_take (i := 6) (d := some 80) (v := ?_) (by simp only [gzA, gzB, gzC] <;> rfl) (by rfl) (by kernel_rfl) (by kernel_rfl) (by kernel_rfl) (fun _ _ _ h => h) (by rfl) ?_ ?_; rotate_left; · (intro u hu; go_simp; try with_reducible rfl)
                try simp only [Act.put, gzD, gzE, gzF]
                refine ways_take (i := 7) (d := some 81) (v := ?_) (by simp only [gzA, gzB, gzC] <;> rfl) (by rfl) (by kernel_rfl) (by kernel_rfl) (by kernel_rfl) (fun _ _ _ h => h) (by rfl) ?_ ?_; rotate_left; · (intro u hu; go_simp; try with_reducible rfl)
                try simp only [Act.put, gzD, gzE, gzF]
                refine ways_take (i := 8) (d := some 82) (v := ?_) (by simp only [gzA, gzB, gzC] <;> rfl) (by rfl) (by kernel_rfl) (by kernel_rfl) (by kernel_rfl) (fun _ _ _ h => h) (by rfl) ?_ ?_; rotate_left; · (intro u hu; go_simp; try with_reducible rfl)
                try simp only [Act.put, gzD, gzE, gzF]
                refine ways_take (i := 9) (d := some 83) (v := ?_) (by simp only [gzA, gzB, gzC] <;> rfl) (by rfl) (by kernel_rfl) (by kernel_rfl) (by kernel_rfl) (fun _ _ _ h => h) (by rfl) ?_ ?_; rotate_left; · (intro u hu; go_simp; try with_reducible rfl)
                try simp only [Act.put, gzD, gzE, gzF]
                refine ways_one (i := 3) (by simp only [gzA, gzB, gzC] <;> rfl) (by kernel_rfl) (by rfl) (fun u hu K hK => ?_)
                replace hB := gb_trans hB hu
                go_simp
                refine (HA.out u (by assumption)).mono ?_
                rintro e w103 ⟨rfl, hb3⟩
                have hg3 := gbB (r := none) hb3
                refine hK.out _ _ hg3 ?_
                replace hB := gb_trans hB hg3
                clear hK K hu
                try simp only [Act.put, gzD, gzE, gzF]
                refine ways_take (i := 4) (d := some 78) (v := ?_) (by simp only [gzA, gzB, gzC] <;> rfl) (by rfl) (by kernel_rfl) (by kernel_rfl) (by kernel_rfl) (fun _ _ _ h => h) (by rfl) ?_ ?_; rotate_left; · (intro u hu; go_simp; try with_reducible rfl)
                try simp only [Act.put, gzD, gzE, gzF]
                refine ways_one (i := 10) (by simp only [gzA, gzB, gzC] <;> rfl) (by kernel_rfl) (by rfl) (fun u hu K hK => ?_)
                replace hB := gb_trans hB hu
                go_simp
                refine (HB.out u (by assumption)).mono ?_
                rintro e w110 ⟨rfl, hb10⟩
                have hg10 := gbB (r := none) hb10
                refine hK.out _ _ hg10 ?_
                replace hB := gb_trans hB hg10
                clear hK K hu
                try simp only [Act.put, gzD, gzE, gzF]
                refine ways_take (i := 11) (d := some 85) (v := ?_) (by simp only [gzA, gzB, gzC] <;> rfl) (by rfl) (by kernel_rfl) (by kernel_rfl) (by kernel_rfl) (fun _ _ _ h => h) (by rfl) ?_ ?_; rotate_left; · (intro u hu; go_simp; try with_reducible rfl)
                try simp only [Act.put, gzD, gzE, gzF]
                refine ways_take (i := 12) (d := some 2) (v := ?_) (by simp only [gzA, gzB, gzC] <;> rfl) (by rfl) (by kernel_rfl) (by kernel_rfl) (by kernel_rfl) (fun _ _ _ h => h) (by rfl) ?_ ?_; rotate_left; · (intro u hu; go_simp; try with_reducible rfl)
                try simp only [Act.put, gzD, gzE, gzF]
                refine ways_done (by kernel_rfl) (fun u hu => ?_) _
                replace hB := gb_trans hB hu
                clear hu
                clear hw
                go_wp2_with fail
                go_ret
                exact ⟨(ret_cat L1 L2).trans (congrArg Ending.returned HE.out.symm), hyw.trans ((gb2B hB).mono hyw.size)⟩
            · have hi : i + n = 9 := by omega
              have hin' : ¬ (i : Int) + (n : Int) ≤ 8 := by omega
              have hnext := Lib.hid ((left_end _ n i hi).symm.trans hM.out)
              clear hi
              go_wp2_with fail
              go_round
              case rel => exact ⟨n - 1, by omega, by omega, by go_num, hnext⟩
              case measure => simp [intOf]; omega
        · obtain rfl : n = 1 := by omega
          have HE : Hid (sv (sixText R G) = sv (Lib.join (G.map hexL) [58])) := Lib.hid (by rw [← hL.out]; rfl)
          go_wp2_with fail
          refine HJ.out.mono ?_
          rintro e w5 ⟨rfl, hb5⟩
          go_wp2_with fail
          go_ret
          exact ⟨congrArg Ending.returned HE.out.symm, hyw.trans (hb5.mono hyw.size)⟩
end Go.Proofs.YtkldcmmlllkhkaaGreatDoor
