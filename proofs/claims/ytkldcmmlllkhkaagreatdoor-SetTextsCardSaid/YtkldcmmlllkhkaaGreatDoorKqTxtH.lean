/- The reference's text of an address of 32 bits. -/
import Derived.Test.YtkldcmmlllkhkaaGreatDoorKqTxtD
import Derived.Test.YtkldcmmlllkhkaaGreatDoorKqTxtG
set_option maxRecDepth 100000
namespace Go.Proofs.YtkldcmmlllkhkaaGreatDoor
open Go.RowKit

theorem grps_len (V : Nat) : (grps V).length = 8 := rfl
theorem grps_lt (V : Nat) : ∀ g ∈ grps V, g < 65536 := by
  intro g hg
  simp only [grps, List.mem_cons, List.not_mem_nil, or_false] at hg
  rcases hg with rfl | rfl | rfl | rfl | rfl | rfl | rfl | rfl <;> exact dig_lt _ _

def adrText (s : Bool) (hi lo : Int) : List UInt8 :=
  if adF s hi lo = 0 then (if s then sixText (zTwo (lzTo (flagsZ (grps (num hi lo))) 8)) (grps (num hi lo)) else fourText lo.toNat) else []

theorem ret_se {a b : List UInt8} {x y : Int} (h1 : a = b) (h2 : x = y) : Ending.returned (.tuple #[sv a, .int .i64 x]) = Ending.returned (.tuple #[sv b, .int .i64 y]) := by rw [h1, h2]

set_option maxHeartbeats 1000000 in
theorem text_any (s : Bool) (hi lo : Int) (w : World) (htab : Tabs w) (h1 : 0 ≤ hi) (h2 : hi < 18446744073709551616) (h3 : 0 ≤ lo) (h4 : lo < 18446744073709551616) :
    Calls Tryz.prog 32 #[.agg #[.bool s, .int .u64 hi, .int .u64 lo]] w (GivesV (.tuple #[sv (adrText s hi lo), .int .i64 (adF s hi lo)]) w) := by
  have hA := Blk.new w [.bool s, .int .u64 hi, .int .u64 lo] 39
  have hb0 : Below w.heap.size w (w.alloc (.cells #[.bool s, .int .u64 hi, .int .u64 lo] 39)) := (Below.refl _ _).alloc (Nat.le_refl _) _
  have hs0 := hb0.size
  have HC := fun w' => Lib.hid (checkAddr_any s hi lo w')
  rcases adF_two s hi lo with hF | hF
  · have HT : Hid (adrText s hi lo = if s then sixText (zTwo (lzTo (flagsZ (grps (num hi lo))) 8)) (grps (num hi lo)) else fourText lo.toNat) := Lib.hid (if_pos hF)
    rw [hF] at HC
    replace hF := Lib.hid hF
    cases s
    · replace HT : Hid (adrText false hi lo = fourText lo.toNat) := Lib.hid (by rw [HT.out]; exact if_neg (by decide))
      have HB := fun w' h => Lib.hid (textOfBytes_any lo w' h h3 h4)
      go_enter Tryz.func32, Tryz.ntmps32
      go_wp2_with fail
      refine (HC _).out.mono ?_
      rintro e w1 ⟨rfl, hb1⟩
      obtain ⟨a0, a1, a2, _⟩ := (hA.below hb1).three
      have hC1 : Below w.heap.size w w1 := hb0.trans (hb1.mono hs0)
      clear hb1 hA
      go_wp2_with fail
      refine (HB _ (htab.below hC1)).out.mono ?_
      rintro e w2 ⟨rfl, hb2⟩
      go_wp2_with fail
      go_ret2
      exact ⟨ret_se HT.out.symm hF.out.symm, hC1.trans (hb2.mono hC1.size)⟩
    · have HG := fun w' => Lib.hid (groupsP_any true hi lo w' h1 h2 h3 h4)
      obtain ⟨G, hG⟩ : ∃ G, G = grps (num hi lo) := ⟨_, rfl⟩
      have g8 : G.length = 8 := by rw [hG]; exact grps_len _
      have gl : ∀ g ∈ G, g < 65536 := by rw [hG]; exact grps_lt _
      replace HT : Hid (adrText true hi lo = sixText (zTwo (lzTo (flagsZ G) 8)) G) := Lib.hid (by rw [HT.out, hG]; exact if_pos rfl)
      rw [← hG] at HG
      replace hG := Lib.hid hG
      replace g8 := Lib.hid g8
      replace gl := Lib.hid gl
      go_enter Tryz.func32, Tryz.ntmps32
      go_wp2_with fail
      refine (HC _).out.mono ?_
      rintro e w1 ⟨rfl, hb1⟩
      obtain ⟨a0, a1, a2, _⟩ := (hA.below hb1).three
      have hC1 : Below w.heap.size w w1 := hb0.trans (hb1.mono hs0)
      clear hb1 hA
      go_wp2_with fail
      refine (HG _).out.mono ?_
      rintro e w2 ⟨A, cap, rfl, hS, hb2⟩
      have hC2 := hC1.trans (hb2.mono hC1.size)
      rw [g8.out] at hS ⊢
      have HX := Lib.hid (textOfGroups_any A cap G w2 (htab.below hC2) g8.out gl.out hS)
      clear hS hb2
      go_wp2_with fail
      refine HX.out.mono ?_
      rintro e w3 ⟨rfl, hb3⟩
      go_wp2_with fail
      go_ret2
      exact ⟨ret_se HT.out.symm hF.out.symm, hC2.trans (hb3.mono hC2.size)⟩
  · have HT : Hid (adrText s hi lo = []) := Lib.hid (if_neg (by rw [hF]; decide))
    rw [hF] at HC
    replace hF := Lib.hid hF
    go_enter Tryz.func32, Tryz.ntmps32
    go_wp2_with fail
    refine (HC _).out.mono ?_
    rintro e w1 ⟨rfl, hb1⟩
    have hC1 : Below w.heap.size w w1 := hb0.trans (hb1.mono hs0)
    clear hb1 hA
    go_wp2_with fail
    go_ret2
    exact ⟨ret_se HT.out.symm hF.out.symm, hC1⟩

set_option maxHeartbeats 2000000 in
theorem groupsR_any (s : Bool) (hi lo : Int) (w : World) (h1 : 0 ≤ hi) (h2 : hi < 18446744073709551616) (h3 : 0 ≤ lo) (h4 : lo < 18446744073709551616) :
    Calls Tryz.prog 83 #[.agg #[.bool s, .int .u64 hi, .int .u64 lo]] w (GivesN .i64 (grps (num hi lo)) w) := by
  have HO := fun w' => Lib.hid (of_any s hi lo w' h1 h2 h3 h4)
  generalize num hi lo = V at *
  have hb0 : Below w.heap.size w (w.alloc (.cells #[.bool s, .int .u64 hi, .int .u64 lo] 39)) := (Below.refl _ _).alloc (Nat.le_refl _) _
  have hs0 := hb0.size
  have g0 := dig_lt V 0
  have g1 := dig_lt V 1
  have g2 := dig_lt V 2
  have g3 := dig_lt V 3
  have g4 := dig_lt V 4
  have g5 := dig_lt V 5
  have g6 := dig_lt V 6
  have g7 := dig_lt V 7
  obtain ⟨i0, hi0, hz0, hz1, hz2⟩ := info_parts info_int
  go_enter Tryz.func83, Tryz.ntmps83
  go_wp2_with fail
  refine (HO _).out.mono ?_
  rintro e w0 ⟨rfl, hx0⟩
  have hy0 := hb0.trans (hx0.mono hs0)
  have hE := Blk.new w0 (digL V s) 81
  have hc0 : Below (w0.heap.size + 1) (w0.alloc (.cells (digL V s).toArray 81)) (w0.alloc (.cells (digL V s).toArray 81)) := Below.refl _ _
  have hd0 : w0.heap.size + 1 ≤ (w0.alloc (.cells (digL V s).toArray 81)).heap.size := by simp
  have hq7 : (w0.alloc (.cells (digL V s).toArray 81)).cell? ⟨w0.heap.size, 7, none⟩ = some (.int .i64 (dig V 7 : Int)) := hE.cell rfl
  go_wp2_with fail
  refine wp_loop_rounds 9 ?_
  rw [rounds_succ]
  go_wp2_with (at_builtin; refine wpList_append_own _ rfl _ _ 22 rfl (w0.heap.size + 1) 3 i0 (.int .i64 0) 1 8 Tryz.underlying22 hi0 hz0 hz1 hz2 rfl (by decide) _ _ _ rfl (World.ownsRow_nil _ _ _ _) ⟨(w0.heap.size + 1), 0, none⟩ 1 1 [.int .i64 (dig V 7 : Int)] rfl rfl ?c1 ?c2 ?c3 ?c4 ?c5 ?_)
  case c1 => exact cell_one_at _ _ _ _ (by simp)
  case c2 => simp; rfl
  case c3 => unfold maxLen; omega
  case c4 => omega
  case c5 => first | omega | (simp; done) | (simp; omega)
  intro v1 w1 hown1 hg1 _
  have hb1 : Below (w0.heap.size + 1) (w0.alloc (.cells (digL V s).toArray 81)) w1 := (hc0.alloc hd0 _).grown hg1 (by first | omega | (simp; done) | (simp; omega)) (by intro k h; cases h)
  have hs1 := hb1.size
  have hsB1 : w0.heap.size + 1 ≤ w1.heap.size := by first | omega | (simp at hs1; omega)
  clear hg1
  have hq6 : w1.cell? ⟨w0.heap.size, 6, none⟩ = some (.int .i64 (dig V 6 : Int)) := (hb1.cell (p := ⟨w0.heap.size, 6, none⟩) (by simp)).trans (hE.cell rfl)
  clear hq7
  go_wp2_with fail
  rw [rounds_succ]
  go_wp2_with (at_builtin; refine wpList_append_own _ rfl _ _ 22 rfl (w0.heap.size + 1) 3 i0 (.int .i64 0) 1 8 Tryz.underlying22 hi0 hz0 hz1 hz2 rfl (by decide) _ _ _ rfl (hown1.alloc _) ⟨w1.heap.size, 0, none⟩ 1 1 [.int .i64 (dig V 6 : Int)] rfl rfl ?c1 ?c2 ?c3 ?c4 ?c5 ?_)
  case c1 => exact cell_one_at _ _ _ _ (by simp)
  case c2 => simp; rfl
  case c3 => unfold maxLen; omega
  case c4 => omega
  case c5 => first | omega | (simp; done) | (simp; omega)
  intro v2 w2 hown2 hg2 _
  have hb2 : Below (w0.heap.size + 1) (w0.alloc (.cells (digL V s).toArray 81)) w2 := (hb1.alloc hsB1 _).grown hg2 (by first | omega | (simp; done) | (simp; omega)) (fun k h => (hown1.lt k h).1)
  have hs2 := hb2.size
  have hsB2 : w0.heap.size + 1 ≤ w2.heap.size := by first | omega | (simp at hs2; omega)
  clear hg2
  have hq5 : w2.cell? ⟨w0.heap.size, 5, none⟩ = some (.int .i64 (dig V 5 : Int)) := (hb2.cell (p := ⟨w0.heap.size, 5, none⟩) (by simp)).trans (hE.cell rfl)
  clear hq6
  go_wp2_with fail
  rw [rounds_succ]
  go_wp2_with (at_builtin; refine wpList_append_own _ rfl _ _ 22 rfl (w0.heap.size + 1) 3 i0 (.int .i64 0) 1 8 Tryz.underlying22 hi0 hz0 hz1 hz2 rfl (by decide) _ _ _ rfl (hown2.alloc _) ⟨w2.heap.size, 0, none⟩ 1 1 [.int .i64 (dig V 5 : Int)] rfl rfl ?c1 ?c2 ?c3 ?c4 ?c5 ?_)
  case c1 => exact cell_one_at _ _ _ _ (by simp)
  case c2 => simp; rfl
  case c3 => unfold maxLen; omega
  case c4 => omega
  case c5 => first | omega | (simp; done) | (simp; omega)
  intro v3 w3 hown3 hg3 _
  have hb3 : Below (w0.heap.size + 1) (w0.alloc (.cells (digL V s).toArray 81)) w3 := (hb2.alloc hsB2 _).grown hg3 (by first | omega | (simp; done) | (simp; omega)) (fun k h => (hown2.lt k h).1)
  have hs3 := hb3.size
  have hsB3 : w0.heap.size + 1 ≤ w3.heap.size := by first | omega | (simp at hs3; omega)
  clear hg3
  have hq4 : w3.cell? ⟨w0.heap.size, 4, none⟩ = some (.int .i64 (dig V 4 : Int)) := (hb3.cell (p := ⟨w0.heap.size, 4, none⟩) (by simp)).trans (hE.cell rfl)
  clear hq5
  go_wp2_with fail
  rw [rounds_succ]
  go_wp2_with (at_builtin; refine wpList_append_own _ rfl _ _ 22 rfl (w0.heap.size + 1) 3 i0 (.int .i64 0) 1 8 Tryz.underlying22 hi0 hz0 hz1 hz2 rfl (by decide) _ _ _ rfl (hown3.alloc _) ⟨w3.heap.size, 0, none⟩ 1 1 [.int .i64 (dig V 4 : Int)] rfl rfl ?c1 ?c2 ?c3 ?c4 ?c5 ?_)
  case c1 => exact cell_one_at _ _ _ _ (by simp)
  case c2 => simp; rfl
  case c3 => unfold maxLen; omega
  case c4 => omega
  case c5 => first | omega | (simp; done) | (simp; omega)
  intro v4 w4 hown4 hg4 _
  have hb4 : Below (w0.heap.size + 1) (w0.alloc (.cells (digL V s).toArray 81)) w4 := (hb3.alloc hsB3 _).grown hg4 (by first | omega | (simp; done) | (simp; omega)) (fun k h => (hown3.lt k h).1)
  have hs4 := hb4.size
  have hsB4 : w0.heap.size + 1 ≤ w4.heap.size := by first | omega | (simp at hs4; omega)
  clear hg4
  have hq3 : w4.cell? ⟨w0.heap.size, 3, none⟩ = some (.int .i64 (dig V 3 : Int)) := (hb4.cell (p := ⟨w0.heap.size, 3, none⟩) (by simp)).trans (hE.cell rfl)
  clear hq4
  go_wp2_with fail
  rw [rounds_succ]
  go_wp2_with (at_builtin; refine wpList_append_own _ rfl _ _ 22 rfl (w0.heap.size + 1) 3 i0 (.int .i64 0) 1 8 Tryz.underlying22 hi0 hz0 hz1 hz2 rfl (by decide) _ _ _ rfl (hown4.alloc _) ⟨w4.heap.size, 0, none⟩ 1 1 [.int .i64 (dig V 3 : Int)] rfl rfl ?c1 ?c2 ?c3 ?c4 ?c5 ?_)
  case c1 => exact cell_one_at _ _ _ _ (by simp)
  case c2 => simp; rfl
  case c3 => unfold maxLen; omega
  case c4 => omega
  case c5 => first | omega | (simp; done) | (simp; omega)
  intro v5 w5 hown5 hg5 _
  have hb5 : Below (w0.heap.size + 1) (w0.alloc (.cells (digL V s).toArray 81)) w5 := (hb4.alloc hsB4 _).grown hg5 (by first | omega | (simp; done) | (simp; omega)) (fun k h => (hown4.lt k h).1)
  have hs5 := hb5.size
  have hsB5 : w0.heap.size + 1 ≤ w5.heap.size := by first | omega | (simp at hs5; omega)
  clear hg5
  have hq2 : w5.cell? ⟨w0.heap.size, 2, none⟩ = some (.int .i64 (dig V 2 : Int)) := (hb5.cell (p := ⟨w0.heap.size, 2, none⟩) (by simp)).trans (hE.cell rfl)
  clear hq3
  go_wp2_with fail
  rw [rounds_succ]
  go_wp2_with (at_builtin; refine wpList_append_own _ rfl _ _ 22 rfl (w0.heap.size + 1) 3 i0 (.int .i64 0) 1 8 Tryz.underlying22 hi0 hz0 hz1 hz2 rfl (by decide) _ _ _ rfl (hown5.alloc _) ⟨w5.heap.size, 0, none⟩ 1 1 [.int .i64 (dig V 2 : Int)] rfl rfl ?c1 ?c2 ?c3 ?c4 ?c5 ?_)
  case c1 => exact cell_one_at _ _ _ _ (by simp)
  case c2 => simp; rfl
  case c3 => unfold maxLen; omega
  case c4 => omega
  case c5 => first | omega | (simp; done) | (simp; omega)
  intro v6 w6 hown6 hg6 _
  have hb6 : Below (w0.heap.size + 1) (w0.alloc (.cells (digL V s).toArray 81)) w6 := (hb5.alloc hsB5 _).grown hg6 (by first | omega | (simp; done) | (simp; omega)) (fun k h => (hown5.lt k h).1)
  have hs6 := hb6.size
  have hsB6 : w0.heap.size + 1 ≤ w6.heap.size := by first | omega | (simp at hs6; omega)
  clear hg6
  have hq1 : w6.cell? ⟨w0.heap.size, 1, none⟩ = some (.int .i64 (dig V 1 : Int)) := (hb6.cell (p := ⟨w0.heap.size, 1, none⟩) (by simp)).trans (hE.cell rfl)
  clear hq2
  go_wp2_with fail
  rw [rounds_succ]
  go_wp2_with (at_builtin; refine wpList_append_own _ rfl _ _ 22 rfl (w0.heap.size + 1) 3 i0 (.int .i64 0) 1 8 Tryz.underlying22 hi0 hz0 hz1 hz2 rfl (by decide) _ _ _ rfl (hown6.alloc _) ⟨w6.heap.size, 0, none⟩ 1 1 [.int .i64 (dig V 1 : Int)] rfl rfl ?c1 ?c2 ?c3 ?c4 ?c5 ?_)
  case c1 => exact cell_one_at _ _ _ _ (by simp)
  case c2 => simp; rfl
  case c3 => unfold maxLen; omega
  case c4 => omega
  case c5 => first | omega | (simp; done) | (simp; omega)
  intro v7 w7 hown7 hg7 _
  have hb7 : Below (w0.heap.size + 1) (w0.alloc (.cells (digL V s).toArray 81)) w7 := (hb6.alloc hsB6 _).grown hg7 (by first | omega | (simp; done) | (simp; omega)) (fun k h => (hown6.lt k h).1)
  have hs7 := hb7.size
  have hsB7 : w0.heap.size + 1 ≤ w7.heap.size := by first | omega | (simp at hs7; omega)
  clear hg7
  have hq0 : w7.cell? ⟨w0.heap.size, 0, none⟩ = some (.int .i64 (dig V 0 : Int)) := (hb7.cell (p := ⟨w0.heap.size, 0, none⟩) (by simp)).trans (hE.cell rfl)
  clear hq1
  go_wp2_with fail
  rw [rounds_succ]
  go_wp2_with (at_builtin; refine wpList_append_own _ rfl _ _ 22 rfl (w0.heap.size + 1) 3 i0 (.int .i64 0) 1 8 Tryz.underlying22 hi0 hz0 hz1 hz2 rfl (by decide) _ _ _ rfl (hown7.alloc _) ⟨w7.heap.size, 0, none⟩ 1 1 [.int .i64 (dig V 0 : Int)] rfl rfl ?c1 ?c2 ?c3 ?c4 ?c5 ?_)
  case c1 => exact cell_one_at _ _ _ _ (by simp)
  case c2 => simp; rfl
  case c3 => unfold maxLen; omega
  case c4 => omega
  case c5 => first | omega | (simp; done) | (simp; omega)
  intro v8 w8 hown8 hg8 _
  have hb8 : Below (w0.heap.size + 1) (w0.alloc (.cells (digL V s).toArray 81)) w8 := (hb7.alloc hsB7 _).grown hg8 (by first | omega | (simp; done) | (simp; omega)) (fun k h => (hown7.lt k h).1)
  have hs8 := hb8.size
  have hsB8 : w0.heap.size + 1 ≤ w8.heap.size := by first | omega | (simp at hs8; omega)
  clear hg8
  clear hq0
  go_wp2_with fail
  rw [rounds_succ]
  go_wp2_with fail
  go_ret
  obtain ⟨A, cap, rfl, hS⟩ := Sl.of_own hown8
  exact ⟨A, cap, rfl, hS, hy0.trans ((((Below.refl w0.heap.size w0).alloc (Nat.le_refl _) _).trans (hb8.mono (by omega))).mono hy0.size)⟩

theorem and255 (d : Nat) (h : d < 65536) : bits BinOp.and IntKind.i64 (d : Int) 255 = ((d % 256 : Nat) : Int) := by
  show IntKind.i64.wrap ((BitVec.ofInt 64 (d : Int) &&& BitVec.ofInt 64 ((255 : Nat) : Int)).toNat : Int) = _
  have o1 : (BitVec.ofInt 64 (d : Int)).toNat = d := by rw [BitVec.ofInt_natCast, BitVec.toNat_ofNat]; exact Nat.mod_eq_of_lt (by omega)
  have o2 : (BitVec.ofInt 64 ((255 : Nat) : Int)).toNat = 255 := by rw [BitVec.ofInt_natCast, BitVec.toNat_ofNat]
  have e : d &&& 255 = d % 2 ^ 8 := Nat.and_two_pow_sub_one_eq_mod d 8
  rw [BitVec.toNat_and, o1, o2, e]
  exact IntWalk.i64_in _ (by omega)

set_option maxHeartbeats 2000000 in
theorem addrTextR_four (lo : Int) (w : World) (htab : Tabs w) (h3 : 0 ≤ lo) (h4 : lo < 4294967296) :
    Calls Tryz.prog 55 #[.agg #[.bool false, .int .u64 0, .int .u64 lo]] w (GivesV (sv (fourText lo.toNat)) w) := by
  have HO := fun w' => Lib.hid (of_any false 0 lo w' (by decide) (by decide) h3 (by omega))
  have d0 := dig_low 0 lo (by omega) 0 (by decide)
  have d1 := dig_low 0 lo (by omega) 1 (by decide)
  simp only [Nat.mul_zero, Nat.mul_one, Nat.pow_zero, Nat.div_one] at d0 d1
  generalize num 0 lo = V at *
  have g0 := dig_lt V 0
  have g1 := dig_lt V 1
  have e0 := and255 (dig V 0) g0
  have e1 := and255 (dig V 1) g1
  have HT : Hid (fourText lo.toNat = Lib.join [Lib.decDigits (dig V 1 / 256), Lib.decDigits (dig V 1 % 256), Lib.decDigits (dig V 0 / 256), Lib.decDigits (dig V 0 % 256)] [46]) := by
    have a : lo.toNat / 16777216 % 256 = dig V 1 / 256 := by rw [d1]; omega
    have b : lo.toNat / 65536 % 256 = dig V 1 % 256 := by rw [d1]; omega
    have c : lo.toNat / 256 % 256 = dig V 0 / 256 := by rw [d0]; omega
    have d : lo.toNat % 256 = dig V 0 % 256 := by rw [d0]; omega
    refine Lib.hid ?_
    unfold fourText
    rw [a, b, c, d]
  clear d0 d1
  obtain ⟨b3, hb3⟩ : ∃ b, b = dig V 1 / 256 := ⟨_, rfl⟩
  have m3 : b3 < 256 := by omega
  rw [← hb3] at HT
  have q3 : ((dig V 1 : Nat) : Int) / 256 = (b3 : Int) := by omega
  replace hb3 := Lib.hid hb3
  have HF3 := Lib.hid (fun u (hu : Tabs u) => itoa_gives b3 (by omega) u hu)
  obtain ⟨b2, hb2⟩ : ∃ b, b = dig V 1 % 256 := ⟨_, rfl⟩
  have m2 : b2 < 256 := by omega
  rw [← hb2] at HT
  rw [← hb2] at e1
  replace hb2 := Lib.hid hb2
  have HF2 := Lib.hid (fun u (hu : Tabs u) => itoa_gives b2 (by omega) u hu)
  obtain ⟨b1, hb1⟩ : ∃ b, b = dig V 0 / 256 := ⟨_, rfl⟩
  have m1 : b1 < 256 := by omega
  rw [← hb1] at HT
  have q1 : ((dig V 0 : Nat) : Int) / 256 = (b1 : Int) := by omega
  replace hb1 := Lib.hid hb1
  have HF1 := Lib.hid (fun u (hu : Tabs u) => itoa_gives b1 (by omega) u hu)
  obtain ⟨b0, hb0⟩ : ∃ b, b = dig V 0 % 256 := ⟨_, rfl⟩
  have m0 : b0 < 256 := by omega
  rw [← hb0] at HT
  rw [← hb0] at e0
  replace hb0 := Lib.hid hb0
  have HF0 := Lib.hid (fun u (hu : Tabs u) => itoa_gives b0 (by omega) u hu)
  have hJ := join_len [46] 3 [Lib.decDigits b3, Lib.decDigits b2, Lib.decDigits b1, Lib.decDigits b0] (by
    intro l hl
    simp at hl
    rcases hl with rfl | rfl | rfl | rfl <;> exact dec_len _ (by assumption))
  have hJ' : (Lib.join [Lib.decDigits b3, Lib.decDigits b2, Lib.decDigits b1, Lib.decDigits b0] [46]).length ≤ 100000 := Nat.le_trans hJ (by simp)
  replace hJ' := Lib.hid hJ'
  clear hJ
  have ht0 := Lib.hid htab
  have hb0 : Below w.heap.size w (w.alloc (.cells #[.bool false, .int .u64 0, .int .u64 lo] 39)) := (Below.refl _ _).alloc (Nat.le_refl _) _
  have hs0 := hb0.size
  obtain ⟨i0, hi0, hz0, hz1, hz2⟩ := info_parts info_str'
  go_enter Tryz.func55, Tryz.ntmps55
  go_wp2_with fail
  refine (HO _).out.mono ?_
  rintro e w0 ⟨rfl, hx0⟩
  have hy0 := hb0.trans (hx0.mono hs0)
  have hE := Blk.new w0 (digL V false) 81
  have hq1 : (w0.alloc (.cells (digL V false).toArray 81)).cell? ⟨w0.heap.size, 1, none⟩ = some (.int .i64 (dig V 1 : Int)) := hE.cell rfl
  have hq0 : (w0.alloc (.cells (digL V false).toArray 81)).cell? ⟨w0.heap.size, 0, none⟩ = some (.int .i64 (dig V 0 : Int)) := hE.cell rfl
  have hE2 := Blk.new (w0.alloc (.cells (digL V false).toArray 81)) [.int .i64 (b3 : Int), .int .i64 (b2 : Int), .int .i64 (b1 : Int), .int .i64 (b0 : Int)] 3
  have hw0 := hy0.size
  have hE2' : Blk ((w0.alloc (.cells (digL V false).toArray 81)).alloc (.cells #[.int .i64 (b3 : Int), .int .i64 (b2 : Int), .int .i64 (b1 : Int), .int .i64 (b0 : Int)] 3)) (w0.heap.size + 1) [.int .i64 (b3 : Int), .int .i64 (b2 : Int), .int .i64 (b1 : Int), .int .i64 (b0 : Int)] 3 := by have := hE2; simp at this; exact this
  clear hE2
  have hb0' : Below (w0.heap.size + 2) ((w0.alloc (.cells (digL V false).toArray 81)).alloc (.cells #[.int .i64 (b3 : Int), .int .i64 (b2 : Int), .int .i64 (b1 : Int), .int .i64 (b0 : Int)] 3)) ((w0.alloc (.cells (digL V false).toArray 81)).alloc (.cells #[.int .i64 (b3 : Int), .int .i64 (b2 : Int), .int .i64 (b1 : Int), .int .i64 (b0 : Int)] 3)) := Below.refl _ _
  have hs0' : w0.heap.size + 2 ≤ (((w0.alloc (.cells (digL V false).toArray 81)).alloc (.cells #[.int .i64 (b3 : Int), .int .i64 (b2 : Int), .int .i64 (b1 : Int), .int .i64 (b0 : Int)] 3))).heap.size := by simp
  have hyE : Below w.heap.size w ((w0.alloc (.cells (digL V false).toArray 81)).alloc (.cells #[.int .i64 (b3 : Int), .int .i64 (b2 : Int), .int .i64 (b1 : Int), .int .i64 (b0 : Int)] 3)) := (hy0.alloc hw0 _).alloc (by simp; omega) _
  have htE := Lib.hid (ht0.out.below hyE)
  have hcE0 : (((w0.alloc (.cells (digL V false).toArray 81)).alloc (.cells #[.int .i64 (b3 : Int), .int .i64 (b2 : Int), .int .i64 (b1 : Int), .int .i64 (b0 : Int)] 3))).cell? ⟨w0.heap.size + 1, 0, none⟩ = some (.int .i64 (b3 : Int)) := hE2'.cell rfl
  go_wp2_with fail
  refine wp_loop_rounds 5 ?_
  rw [rounds_succ]
  have HX1 := Lib.hid (HF3.out (((w0.alloc (.cells (digL V false).toArray 81)).alloc (.cells #[.int .i64 (b3 : Int), .int .i64 (b2 : Int), .int .i64 (b1 : Int), .int .i64 (b0 : Int)] 3))) (htE.out))
  go_wp2_with fail
  refine HX1.out.mono ?_
  rintro e x1 ⟨rfl, hx1⟩
  have hy1 : Below (w0.heap.size + 2) ((w0.alloc (.cells (digL V false).toArray 81)).alloc (.cells #[.int .i64 (b3 : Int), .int .i64 (b2 : Int), .int .i64 (b1 : Int), .int .i64 (b0 : Int)] 3)) x1 := hx1.mono hs0'
  have hz1' : w0.heap.size + 2 ≤ x1.heap.size := Nat.le_trans hs0' hx1.size
  clear hcE0 HX1
  go_wp2_with (at_builtin; refine wpList_append_own _ rfl _ _ 110 rfl (w0.heap.size + 2) 9 i0 (.string ⟨#[]⟩) 1 16 Tryz.underlying110 hi0 hz0 hz1 hz2 rfl (by decide) _ _ _ rfl (World.ownsRow_nil _ _ _ _) ⟨x1.heap.size, 0, none⟩ 1 1 [sv (Lib.decDigits b3)] rfl rfl ?c1 ?c2 ?c3 ?c4 ?c5 ?_)
  case c1 => exact cell_one_at _ _ _ _ (by simp)
  case c2 => simp; rfl
  case c3 => unfold maxLen; omega
  case c4 => omega
  case c5 => first | omega | (simp; done) | (simp; omega)
  intro v1 w1 hown1 hg1 _
  have hb1' : Below (w0.heap.size + 2) ((w0.alloc (.cells (digL V false).toArray 81)).alloc (.cells #[.int .i64 (b3 : Int), .int .i64 (b2 : Int), .int .i64 (b1 : Int), .int .i64 (b0 : Int)] 3)) w1 := (hy1.alloc hz1' _).grown hg1 (by first | omega | (simp; done) | (simp; omega)) (by intro k h; cases h)
  have hs1' : w0.heap.size + 2 ≤ w1.heap.size := Nat.le_trans hs0' hb1'.size
  clear hg1
  go_wp2_with fail
  rw [rounds_succ]
  have hcE1 : w1.cell? ⟨w0.heap.size + 1, 1, none⟩ = some (.int .i64 (b2 : Int)) := (hb1'.cell (p := ⟨w0.heap.size + 1, 1, none⟩) (by simp)).trans (hE2'.cell rfl)
  have HX2 := Lib.hid (HF2.out (w1) (htE.out.upto (fun j hj => hb1'.block j (by have := htE.out.2.2; have := ht0.out.2.2; omega)) hb1'.size))
  go_wp2_with fail
  refine HX2.out.mono ?_
  rintro e x2 ⟨rfl, hx2⟩
  have hy2 : Below (w0.heap.size + 2) ((w0.alloc (.cells (digL V false).toArray 81)).alloc (.cells #[.int .i64 (b3 : Int), .int .i64 (b2 : Int), .int .i64 (b1 : Int), .int .i64 (b0 : Int)] 3)) x2 := hb1'.trans (hx2.mono hs1')
  have hz2' : w0.heap.size + 2 ≤ x2.heap.size := Nat.le_trans hs1' hx2.size
  clear hcE1 HX2
  go_wp2_with (at_builtin; refine wpList_append_own _ rfl _ _ 110 rfl (w0.heap.size + 2) 9 i0 (.string ⟨#[]⟩) 1 16 Tryz.underlying110 hi0 hz0 hz1 hz2 rfl (by decide) _ _ _ rfl ((own_below hown1 hx2).alloc _) ⟨x2.heap.size, 0, none⟩ 1 1 [sv (Lib.decDigits b2)] rfl rfl ?c1 ?c2 ?c3 ?c4 ?c5 ?_)
  case c1 => exact cell_one_at _ _ _ _ (by simp)
  case c2 => simp; rfl
  case c3 => unfold maxLen; omega
  case c4 => omega
  case c5 => first | omega | (simp; done) | (simp; omega)
  intro v2 w2 hown2 hg2 _
  have hb2' : Below (w0.heap.size + 2) ((w0.alloc (.cells (digL V false).toArray 81)).alloc (.cells #[.int .i64 (b3 : Int), .int .i64 (b2 : Int), .int .i64 (b1 : Int), .int .i64 (b0 : Int)] 3)) w2 := (hy2.alloc hz2' _).grown hg2 (by first | omega | (simp; done) | (simp; omega)) (fun k h => ((own_below hown1 hx2).lt k h).1)
  have hs2' : w0.heap.size + 2 ≤ w2.heap.size := Nat.le_trans hs0' hb2'.size
  clear hg2
  go_wp2_with fail
  rw [rounds_succ]
  have hcE2 : w2.cell? ⟨w0.heap.size + 1, 2, none⟩ = some (.int .i64 (b1 : Int)) := (hb2'.cell (p := ⟨w0.heap.size + 1, 2, none⟩) (by simp)).trans (hE2'.cell rfl)
  have HX3 := Lib.hid (HF1.out (w2) (htE.out.upto (fun j hj => hb2'.block j (by have := htE.out.2.2; have := ht0.out.2.2; omega)) hb2'.size))
  go_wp2_with fail
  refine HX3.out.mono ?_
  rintro e x3 ⟨rfl, hx3⟩
  have hy3 : Below (w0.heap.size + 2) ((w0.alloc (.cells (digL V false).toArray 81)).alloc (.cells #[.int .i64 (b3 : Int), .int .i64 (b2 : Int), .int .i64 (b1 : Int), .int .i64 (b0 : Int)] 3)) x3 := hb2'.trans (hx3.mono hs2')
  have hz3' : w0.heap.size + 2 ≤ x3.heap.size := Nat.le_trans hs2' hx3.size
  clear hcE2 HX3
  go_wp2_with (at_builtin; refine wpList_append_own _ rfl _ _ 110 rfl (w0.heap.size + 2) 9 i0 (.string ⟨#[]⟩) 1 16 Tryz.underlying110 hi0 hz0 hz1 hz2 rfl (by decide) _ _ _ rfl ((own_below hown2 hx3).alloc _) ⟨x3.heap.size, 0, none⟩ 1 1 [sv (Lib.decDigits b1)] rfl rfl ?c1 ?c2 ?c3 ?c4 ?c5 ?_)
  case c1 => exact cell_one_at _ _ _ _ (by simp)
  case c2 => simp; rfl
  case c3 => unfold maxLen; omega
  case c4 => omega
  case c5 => first | omega | (simp; done) | (simp; omega)
  intro v3 w3 hown3 hg3 _
  have hb3' : Below (w0.heap.size + 2) ((w0.alloc (.cells (digL V false).toArray 81)).alloc (.cells #[.int .i64 (b3 : Int), .int .i64 (b2 : Int), .int .i64 (b1 : Int), .int .i64 (b0 : Int)] 3)) w3 := (hy3.alloc hz3' _).grown hg3 (by first | omega | (simp; done) | (simp; omega)) (fun k h => ((own_below hown2 hx3).lt k h).1)
  have hs3' : w0.heap.size + 2 ≤ w3.heap.size := Nat.le_trans hs0' hb3'.size
  clear hg3
  go_wp2_with fail
  rw [rounds_succ]
  have hcE3 : w3.cell? ⟨w0.heap.size + 1, 3, none⟩ = some (.int .i64 (b0 : Int)) := (hb3'.cell (p := ⟨w0.heap.size + 1, 3, none⟩) (by simp)).trans (hE2'.cell rfl)
  have HX4 := Lib.hid (HF0.out (w3) (htE.out.upto (fun j hj => hb3'.block j (by have := htE.out.2.2; have := ht0.out.2.2; omega)) hb3'.size))
  go_wp2_with fail
  refine HX4.out.mono ?_
  rintro e x4 ⟨rfl, hx4⟩
  have hy4 : Below (w0.heap.size + 2) ((w0.alloc (.cells (digL V false).toArray 81)).alloc (.cells #[.int .i64 (b3 : Int), .int .i64 (b2 : Int), .int .i64 (b1 : Int), .int .i64 (b0 : Int)] 3)) x4 := hb3'.trans (hx4.mono hs3')
  have hz4' : w0.heap.size + 2 ≤ x4.heap.size := Nat.le_trans hs3' hx4.size
  clear hcE3 HX4
  go_wp2_with (at_builtin; refine wpList_append_own _ rfl _ _ 110 rfl (w0.heap.size + 2) 9 i0 (.string ⟨#[]⟩) 1 16 Tryz.underlying110 hi0 hz0 hz1 hz2 rfl (by decide) _ _ _ rfl ((own_below hown3 hx4).alloc _) ⟨x4.heap.size, 0, none⟩ 1 1 [sv (Lib.decDigits b0)] rfl rfl ?c1 ?c2 ?c3 ?c4 ?c5 ?_)
  case c1 => exact cell_one_at _ _ _ _ (by simp)
  case c2 => simp; rfl
  case c3 => unfold maxLen; omega
  case c4 => omega
  case c5 => first | omega | (simp; done) | (simp; omega)
  intro v4 w4 hown4 hg4 _
  have hb4' : Below (w0.heap.size + 2) ((w0.alloc (.cells (digL V false).toArray 81)).alloc (.cells #[.int .i64 (b3 : Int), .int .i64 (b2 : Int), .int .i64 (b1 : Int), .int .i64 (b0 : Int)] 3)) w4 := (hy4.alloc hz4' _).grown hg4 (by first | omega | (simp; done) | (simp; omega)) (fun k h => ((own_below hown3 hx4).lt k h).1)
  have hs4' : w0.heap.size + 2 ≤ w4.heap.size := Nat.le_trans hs0' hb4'.size
  clear hg4
  go_wp2_with fail
  rw [rounds_succ]
  go_wp2_with fail
  obtain ⟨A', cap', rfl, hS'⟩ := Sl.of_own hown4
  have HJ := Lib.hid (join_any A' 4 cap' [Lib.decDigits b3, Lib.decDigits b2, Lib.decDigits b1, Lib.decDigits b0] [46] w4 hS' (by omega) hJ'.out)
  clear hS' hown1 hown2 hown3 hown4
  refine HJ.out.mono ?_
  rintro e w5 ⟨rfl, hb5⟩
  go_wp2_with fail
  go_ret
  exact ⟨congrArg (fun l => Ending.returned (sv l)) HT.out.symm, hyE.trans ((hb4'.mono (by omega)).trans (hb5.mono (by omega)))⟩
end Go.Proofs.YtkldcmmlllkhkaaGreatDoor
