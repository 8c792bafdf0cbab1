/- A row of one that is sorted; rows known by their first cell. -/
import Derived.Test.YtfbggfpihiegpaaGreatDoorKpRvL
import Derived.Test.YtfbggfpihiegpaaGreatDoorKpNmG
set_option linter.unusedVariables false
set_option linter.unusedSimpArgs false
set_option maxRecDepth 100000
namespace Go.Proofs.YtfbggfpihiegpaaGreatDoor
open Go.RowKit

set_option maxHeartbeats 1000000 in
theorem indexFuncC_any (g p m c : Nat) (w : World) (x0 : w.cell? ⟨g, 0, none⟩ = some (.string ⟨#[97]⟩)) (hgl : g < w.heap.size) (hp : Blk w p [.map (some m)] 176) (hM : w.heap[m]? = some (.map #[] 0)) :
    Calls Tryz.prog 193 #[.slice (some ⟨g, 0, none⟩) 1 c, .func (.func 111) #[] #[.pointer (some ⟨p, 0, none⟩)]] w fun e w' => e = .returned (.int .i64 (-1)) ∧ w = w' := by
  go_enter Tryz.func193, Tryz.ntmps193
  go_wp2_with fail
  refine wp_loop_rounds 2 ?_
  rw [rounds_succ]
  go_wp2_with fail
  refine (joined1_any p m _ _ hp hM).mono ?_
  rintro e w2 ⟨rfl, rfl⟩
  go_wp2_with fail
  rw [rounds_succ]
  go_wp2_with fail
  go_ret
  exact ⟨rfl, rfl⟩

set_option maxHeartbeats 1000000 in
theorem deleteC_any (g p m c : Nat) (w : World) (x0 : w.cell? ⟨g, 0, none⟩ = some (.string ⟨#[97]⟩)) (hgl : g < w.heap.size) (hp : Blk w p [.map (some m)] 176) (hM : w.heap[m]? = some (.map #[] 0)) :
    Calls Tryz.prog 109 #[.slice (some ⟨g, 0, none⟩) 1 c, .func (.func 111) #[] #[.pointer (some ⟨p, 0, none⟩)]] w fun e w' => e = .returned (.slice (some ⟨g, 0, none⟩) 1 c) ∧ w = w' := by
  go_enter Tryz.func109, Tryz.ntmps109
  go_wp2_with fail
  refine (indexFuncC_any g p m _ _ x0 hgl hp hM).mono ?_
  rintro e w2 ⟨rfl, rfl⟩
  go_wp2_with fail
  go_ret
  exact ⟨rfl, rfl⟩


theorem Kb.setCell1 {p : Nat} {x : World} {a : Addr} (ha : p ≠ a.block) (v : Value) : Kb [p] x (x.setCell a v) := by
  intro q hq
  rw [List.mem_singleton.1 hq]
  exact Below.heap_setCell _ _ _ _ ha
set_option maxHeartbeats 1000000 in
theorem insertion1St_any (A : Option Addr) (c : Nat) (w : World) : Calls Tryz.prog 252 #[.slice A 1 c, .int .i64 0, .int .i64 1] w fun e w' => e = .returned (.tuple #[]) ∧ w = w' := by
  go_enter Tryz.func252, Tryz.ntmps252
  go_wp2_with fail
  refine wp_loop_rounds 1 ?_
  rw [rounds_succ]
  go_wp2_with fail
  go_end0
  exact ⟨rfl, rfl⟩
set_option maxHeartbeats 1000000 in
theorem pdq1St_any (A : Option Addr) (c : Nat) (l : Int) (w : World) : Calls Tryz.prog 199 #[.slice A 1 c, .int .i64 0, .int .i64 1, .int .i64 l] w fun e w' => e = .returned (.tuple #[]) ∧ w = w' := by
  go_enter Tryz.func199, Tryz.ntmps199
  go_wp2_with fail
  refine wp_loop_rounds 1 ?_
  rw [rounds_succ]
  go_wp2_with fail
  refine (insertion1St_any _ _ _).mono ?_
  rintro e w2 ⟨rfl, rfl⟩
  go_wp2_with fail
  (try simp only [Exit.inBlock, Exit.then]); refine bodyPost_ret (results_none rfl _ _ _) rfl ?_
  exact ⟨rfl, rfl⟩
set_option maxHeartbeats 1000000 in
theorem sort1St_any (A : Option Addr) (c : Nat) (w : World) : Calls Tryz.prog 118 #[.slice A 1 c] w fun e w' => e = .returned (.tuple #[]) ∧ w = w' := by
  go_enter Tryz.func118, Tryz.ntmps118
  go_wp2_with fail
  refine (Tryz.bits_Len 1 _ (by decide) (by decide)).mono ?_
  rintro e w2 ⟨rfl, rfl⟩
  go_wp2_with fail
  refine (pdq1St_any _ _ _ _).mono ?_
  rintro e w2 ⟨rfl, rfl⟩
  go_wp2_with fail
  go_end0
  exact ⟨rfl, rfl⟩

section
variable (ρ : Operand → Value) (dst : Option Tmp) (x y : Operand) (ty : TypeId) (pos : String) (after : Array Edge) (guard : Option (Nat × Bool))
@[go_sem ↓ high] theorem execOp_ldPa : execOp ρ ⟨dst, .load 88 x, ty, pos, after, guard⟩ = ldT 88 (ρ x) := rfl
@[go_sem high] theorem execOp_ldPa' : execOp ρ ⟨dst, .load 88 x, ty, pos, after, guard⟩ = ldT 88 (ρ x) := rfl
@[go_sem ↓ high] theorem execOp_stPa : execOp ρ ⟨dst, .store 88 x y, ty, pos, after, guard⟩ = stT 88 (ρ x) (ρ y) := rfl
@[go_sem high] theorem execOp_stPa' : execOp ρ ⟨dst, .store 88 x y, ty, pos, after, guard⟩ = stT 88 (ρ x) (ρ y) := rfl
end
theorem rowPa : RowT 88 13 := ⟨⟨_, Tryz.underlying88, rfl⟩, by kernel_rfl⟩
theorem oneAll {l : List Value} (h : (l.all fun v => v.oneCell') = true) : ∀ v ∈ l, v.oneCell' = true := fun v hv => List.all_eq_true.1 h v hv
theorem Blk.rowU {w : World} {p : Nat} {old : List Value} {t : TypeId} (h : Blk w p old t) (cs : List Value) : Blk (w.setRow p cs.toArray) p cs t := setRow_heap w p _ _ _ _ h
theorem below_rowP {B p : Nat} {w W : World} (h : Below B w W) (hp : B ≤ p) (cs : Array Value) : Below B w (W.setRow p cs) :=
  ⟨h.os, h.tape, h.output, Nat.le_trans h.size (by simp), fun k hk => (setRow_other W p k cs (by omega)).trans (h.block k hk)⟩
end Go.Proofs.YtfbggfpihiegpaaGreatDoor
