/- The groups of an address as the reference lists them. -/
import Derived.Test.YtokeeimppbiokaaGreatDoorTxtE
namespace Go.Proofs.YtokeeimppbiokaaGreatDoor
open Go.RowKit

set_option maxHeartbeats 2000000 in
set_option maxRecDepth 100000 in
theorem groupsR_any (s : Bool) (hi lo : Int) (w : World) (h1 : 0 ≤ hi) (h2 : hi < 18446744073709551616) (h3 : 0 ≤ lo) (h4 : lo < 18446744073709551616) :
    Calls Tryz.prog 45 #[.agg #[.bool s, .int .u64 hi, .int .u64 lo]] w (GivesN .i64 (grps (num hi lo)) w) := by
  have HO := fun w' => Lib.hid (of_any s hi lo w' h1 h2 h3 h4)
  generalize num hi lo = V at *
  have hb0 : Below w.heap.size w (w.alloc (.cells #[.bool s, .int .u64 hi, .int .u64 lo] 29)) := (Below.refl _ _).alloc (Nat.le_refl _) _
  have hs0 := hb0.size
  have g0 := dig_lt V 0
  have g1 := dig_lt V 1
  have g2 := dig_lt V 2
  have g3 := dig_lt V 3
  have g4 := dig_lt V 4
  have g5 := dig_lt V 5
  have g6 := dig_lt V 6
  have g7 := dig_lt V 7
  obtain ⟨i0, hi0, hz0, hz1, hz2⟩ := info_parts info_int
  go_enter Tryz.func45, Tryz.ntmps45
  go_wp2_with fail
  refine (HO _).out.mono ?_
  rintro e w0 ⟨rfl, hx0⟩
  have hy0 := hb0.trans (hx0.mono hs0)
  have hE := Blk.new w0 (digL V s) 67
  have hc0 : Below (w0.heap.size + 1) (w0.alloc (.cells (digL V s).toArray 67)) (w0.alloc (.cells (digL V s).toArray 67)) := Below.refl _ _
  have hd0 : w0.heap.size + 1 ≤ (w0.alloc (.cells (digL V s).toArray 67)).heap.size := by simp
  have hq7 : (w0.alloc (.cells (digL V s).toArray 67)).cell? ⟨w0.heap.size, 7, none⟩ = some (.int .i64 (dig V 7 : Int)) := hE.cell rfl
  go_wp2_with fail
  refine wp_loop_rounds 9 ?_
  rw [rounds_succ]
  go_wp2_with (at_builtin; refine wpList_append_own _ rfl _ _ 22 rfl (w0.heap.size + 1) 3 i0 (.int .i64 0) 1 8 Tryz.underlying22 hi0 hz0 hz1 hz2 rfl (by decide) _ _ _ rfl (World.ownsRow_nil _ _ _ _) ⟨(w0.heap.size + 1), 0, none⟩ 1 1 [.int .i64 (dig V 7 : Int)] rfl rfl ?c1 ?c2 ?c3 ?c4 ?c5 ?_)
  case c1 => exact cell_one_at _ _ _ _ (by simp)
  case c2 => simp; rfl
  case c3 => unfold maxLen; omega
  case c4 => omega
  case c5 => first | omega | (simp; done) | (simp; omega)
  intro v1 w1 hown1 hg1 _
  have hb1 : Below (w0.heap.size + 1) (w0.alloc (.cells (digL V s).toArray 67)) w1 := (hc0.alloc hd0 _).grown hg1 (by first | omega | (simp; done) | (simp; omega)) (by intro k h; cases h)
  have hs1 := hb1.size
  have hsB1 : w0.heap.size + 1 ≤ w1.heap.size := by first | omega | (simp at hs1; omega)
  clear hg1
  have hq6 : w1.cell? ⟨w0.heap.size, 6, none⟩ = some (.int .i64 (dig V 6 : Int)) := (hb1.cell (p := ⟨w0.heap.size, 6, none⟩) (by simp)).trans (hE.cell rfl)
  clear hq7
  go_wp2_with fail
  rw [rounds_succ]
  go_wp2_with (at_builtin; refine wpList_append_own _ rfl _ _ 22 rfl (w0.heap.size + 1) 3 i0 (.int .i64 0) 1 8 Tryz.underlying22 hi0 hz0 hz1 hz2 rfl (by decide) _ _ _ rfl (hown1.alloc _) ⟨w1.heap.size, 0, none⟩ 1 1 [.int .i64 (dig V 6 : Int)] rfl rfl ?c1 ?c2 ?c3 ?c4 ?c5 ?_)
  case c1 => exact cell_one_at _ _ _ _ (by simp)
  case c2 => simp; rfl
  case c3 => unfold maxLen; omega
  case c4 => omega
  case c5 => first | omega | (simp; done) | (simp; omega)
  intro v2 w2 hown2 hg2 _
  have hb2 : Below (w0.heap.size + 1) (w0.alloc (.cells (digL V s).toArray 67)) w2 := (hb1.alloc hsB1 _).grown hg2 (by first | omega | (simp; done) | (simp; omega)) (fun k h => (hown1.lt k h).1)
  have hs2 := hb2.size
  have hsB2 : w0.heap.size + 1 ≤ w2.heap.size := by first | omega | (simp at hs2; omega)
  clear hg2
  have hq5 : w2.cell? ⟨w0.heap.size, 5, none⟩ = some (.int .i64 (dig V 5 : Int)) := (hb2.cell (p := ⟨w0.heap.size, 5, none⟩) (by simp)).trans (hE.cell rfl)
  clear hq6
  go_wp2_with fail
  rw [rounds_succ]
  go_wp2_with (at_builtin; refine wpList_append_own _ rfl _ _ 22 rfl (w0.heap.size + 1) 3 i0 (.int .i64 0) 1 8 Tryz.underlying22 hi0 hz0 hz1 hz2 rfl (by decide) _ _ _ rfl (hown2.alloc _) ⟨w2.heap.size, 0, none⟩ 1 1 [.int .i64 (dig V 5 : Int)] rfl rfl ?c1 ?c2 ?c3 ?c4 ?c5 ?_)
  case c1 => exact cell_one_at _ _ _ _ (by simp)
  case c2 => simp; rfl
  case c3 => unfold maxLen; omega
  case c4 => omega
  case c5 => first | omega | (simp; done) | (simp; omega)
  intro v3 w3 hown3 hg3 _
  have hb3 : Below (w0.heap.size + 1) (w0.alloc (.cells (digL V s).toArray 67)) w3 := (hb2.alloc hsB2 _).grown hg3 (by first | omega | (simp; done) | (simp; omega)) (fun k h => (hown2.lt k h).1)
  have hs3 := hb3.size
  have hsB3 : w0.heap.size + 1 ≤ w3.heap.size := by first | omega | (simp at hs3; omega)
  clear hg3
  have hq4 : w3.cell? ⟨w0.heap.size, 4, none⟩ = some (.int .i64 (dig V 4 : Int)) := (hb3.cell (p := ⟨w0.heap.size, 4, none⟩) (by simp)).trans (hE.cell rfl)
  clear hq5
  go_wp2_with fail
  rw [rounds_succ]
  go_wp2_with (at_builtin; refine wpList_append_own _ rfl _ _ 22 rfl (w0.heap.size + 1) 3 i0 (.int .i64 0) 1 8 Tryz.underlying22 hi0 hz0 hz1 hz2 rfl (by decide) _ _ _ rfl (hown3.alloc _) ⟨w3.heap.size, 0, none⟩ 1 1 [.int .i64 (dig V 4 : Int)] rfl rfl ?c1 ?c2 ?c3 ?c4 ?c5 ?_)
  case c1 => exact cell_one_at _ _ _ _ (by simp)
  case c2 => simp; rfl
  case c3 => unfold maxLen; omega
  case c4 => omega
  case c5 => first | omega | (simp; done) | (simp; omega)
  intro v4 w4 hown4 hg4 _
  have hb4 : Below (w0.heap.size + 1) (w0.alloc (.cells (digL V s).toArray 67)) w4 := (hb3.alloc hsB3 _).grown hg4 (by first | omega | (simp; done) | (simp; omega)) (fun k h => (hown3.lt k h).1)
  have hs4 := hb4.size
  have hsB4 : w0.heap.size + 1 ≤ w4.heap.size := by first | omega | (simp at hs4; omega)
  clear hg4
  have hq3 : w4.cell? ⟨w0.heap.size, 3, none⟩ = some (.int .i64 (dig V 3 : Int)) := (hb4.cell (p := ⟨w0.heap.size, 3, none⟩) (by simp)).trans (hE.cell rfl)
  clear hq4
  go_wp2_with fail
  rw [rounds_succ]
  go_wp2_with (at_builtin; refine wpList_append_own _ rfl _ _ 22 rfl (w0.heap.size + 1) 3 i0 (.int .i64 0) 1 8 Tryz.underlying22 hi0 hz0 hz1 hz2 rfl (by decide) _ _ _ rfl (hown4.alloc _) ⟨w4.heap.size, 0, none⟩ 1 1 [.int .i64 (dig V 3 : Int)] rfl rfl ?c1 ?c2 ?c3 ?c4 ?c5 ?_)
  case c1 => exact cell_one_at _ _ _ _ (by simp)
  case c2 => simp; rfl
  case c3 => unfold maxLen; omega
  case c4 => omega
  case c5 => first | omega | (simp; done) | (simp; omega)
  intro v5 w5 hown5 hg5 _
  have hb5 : Below (w0.heap.size + 1) (w0.alloc (.cells (digL V s).toArray 67)) w5 := (hb4.alloc hsB4 _).grown hg5 (by first | omega | (simp; done) | (simp; omega)) (fun k h => (hown4.lt k h).1)
  have hs5 := hb5.size
  have hsB5 : w0.heap.size + 1 ≤ w5.heap.size := by first | omega | (simp at hs5; omega)
  clear hg5
  have hq2 : w5.cell? ⟨w0.heap.size, 2, none⟩ = some (.int .i64 (dig V 2 : Int)) := (hb5.cell (p := ⟨w0.heap.size, 2, none⟩) (by simp)).trans (hE.cell rfl)
  clear hq3
  go_wp2_with fail
  rw [rounds_succ]
  go_wp2_with (at_builtin; refine wpList_append_own _ rfl _ _ 22 rfl (w0.heap.size + 1) 3 i0 (.int .i64 0) 1 8 Tryz.underlying22 hi0 hz0 hz1 hz2 rfl (by decide) _ _ _ rfl (hown5.alloc _) ⟨w5.heap.size, 0, none⟩ 1 1 [.int .i64 (dig V 2 : Int)] rfl rfl ?c1 ?c2 ?c3 ?c4 ?c5 ?_)
  case c1 => exact cell_one_at _ _ _ _ (by simp)
  case c2 => simp; rfl
  case c3 => unfold maxLen; omega
  case c4 => omega
  case c5 => first | omega | (simp; done) | (simp; omega)
  intro v6 w6 hown6 hg6 _
  have hb6 : Below (w0.heap.size + 1) (w0.alloc (.cells (digL V s).toArray 67)) w6 := (hb5.alloc hsB5 _).grown hg6 (by first | omega | (simp; done) | (simp; omega)) (fun k h => (hown5.lt k h).1)
  have hs6 := hb6.size
  have hsB6 : w0.heap.size + 1 ≤ w6.heap.size := by first | omega | (simp at hs6; omega)
  clear hg6
  have hq1 : w6.cell? ⟨w0.heap.size, 1, none⟩ = some (.int .i64 (dig V 1 : Int)) := (hb6.cell (p := ⟨w0.heap.size, 1, none⟩) (by simp)).trans (hE.cell rfl)
  clear hq2
  go_wp2_with fail
  rw [rounds_succ]
  go_wp2_with (at_builtin; refine wpList_append_own _ rfl _ _ 22 rfl (w0.heap.size + 1) 3 i0 (.int .i64 0) 1 8 Tryz.underlying22 hi0 hz0 hz1 hz2 rfl (by decide) _ _ _ rfl (hown6.alloc _) ⟨w6.heap.size, 0, none⟩ 1 1 [.int .i64 (dig V 1 : Int)] rfl rfl ?c1 ?c2 ?c3 ?c4 ?c5 ?_)
  case c1 => exact cell_one_at _ _ _ _ (by simp)
  case c2 => simp; rfl
  case c3 => unfold maxLen; omega
  case c4 => omega
  case c5 => first | omega | (simp; done) | (simp; omega)
  intro v7 w7 hown7 hg7 _
  have hb7 : Below (w0.heap.size + 1) (w0.alloc (.cells (digL V s).toArray 67)) w7 := (hb6.alloc hsB6 _).grown hg7 (by first | omega | (simp; done) | (simp; omega)) (fun k h => (hown6.lt k h).1)
  have hs7 := hb7.size
  have hsB7 : w0.heap.size + 1 ≤ w7.heap.size := by first | omega | (simp at hs7; omega)
  clear hg7
  have hq0 : w7.cell? ⟨w0.heap.size, 0, none⟩ = some (.int .i64 (dig V 0 : Int)) := (hb7.cell (p := ⟨w0.heap.size, 0, none⟩) (by simp)).trans (hE.cell rfl)
  clear hq1
  go_wp2_with fail
  rw [rounds_succ]
  go_wp2_with (at_builtin; refine wpList_append_own _ rfl _ _ 22 rfl (w0.heap.size + 1) 3 i0 (.int .i64 0) 1 8 Tryz.underlying22 hi0 hz0 hz1 hz2 rfl (by decide) _ _ _ rfl (hown7.alloc _) ⟨w7.heap.size, 0, none⟩ 1 1 [.int .i64 (dig V 0 : Int)] rfl rfl ?c1 ?c2 ?c3 ?c4 ?c5 ?_)
  case c1 => exact cell_one_at _ _ _ _ (by simp)
  case c2 => simp; rfl
  case c3 => unfold maxLen; omega
  case c4 => omega
  case c5 => first | omega | (simp; done) | (simp; omega)
  intro v8 w8 hown8 hg8 _
  have hb8 : Below (w0.heap.size + 1) (w0.alloc (.cells (digL V s).toArray 67)) w8 := (hb7.alloc hsB7 _).grown hg8 (by first | omega | (simp; done) | (simp; omega)) (fun k h => (hown7.lt k h).1)
  have hs8 := hb8.size
  have hsB8 : w0.heap.size + 1 ≤ w8.heap.size := by first | omega | (simp at hs8; omega)
  clear hg8
  clear hq0
  go_wp2_with fail
  rw [rounds_succ]
  go_wp2_with fail
  go_ret
  obtain ⟨A, cap, rfl, hS⟩ := Sl.of_own hown8
  exact ⟨A, cap, rfl, hS, hy0.trans ((((Below.refl w0.heap.size w0).alloc (Nat.le_refl _) _).trans (hb8.mono (by omega))).mono hy0.size)⟩
end Go.Proofs.YtokeeimppbiokaaGreatDoor
