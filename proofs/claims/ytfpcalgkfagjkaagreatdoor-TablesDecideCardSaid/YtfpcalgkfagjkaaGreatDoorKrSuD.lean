/- Sets: Least, Ranges. -/
import Derived.Test.YtfpcalgkfagjkaaGreatDoorKrSvB
import Derived.Test.YtfpcalgkfagjkaaGreatDoorKrLaneD
import Derived.Deep.CutBlock
import Derived.Deep.DeepCutAuto
import Derived.RangeFuncNested
import Derived.RangeFuncBound
import Derived.RangeFuncCalls
import Derived.RangeFuncLeaves
import Derived.Shelf.Abstract
import Derived.Shelf.RegionOpen
import Derived.WalkKit
import Derived.OwnWalkIn
import Derived.TacticsInMore
import Derived.LoopNIn
import Derived.LoopIn
set_option linter.unusedVariables false
set_option linter.unusedSimpArgs false
namespace Go.Proofs.YtfpcalgkfagjkaaGreatDoor
open Go.RowKit

theorem right_pf {s : Bool} {hi lo n : Int} (h : RightP s hi lo n) : Pf.R (⟨s, hi, lo⟩, n) := by
  obtain ⟨a, l, ⟨⟨h1, h2⟩, ⟨h3, h4⟩, h5⟩, h6, h7, rfl, rfl⟩ := h
  have hv : num a l < 2 ^ 128 := num_lt h2 h4
  obtain ⟨k, hk⟩ : ∃ k, k = (lenZ s - n).toNat := ⟨_, rfl⟩
  rw [← hk]
  have hc : clr (num a l) k < 2 ^ 128 := Nat.lt_of_le_of_lt (clr_le _ _) hv
  have hn : num ((clr (num a l) k / 2 ^ 64 : Nat) : Int) ((clr (num a l) k % 2 ^ 64 : Nat) : Int) = clr (num a l) k := num_of_halves _ hc
  refine ⟨⟨u64_halves _ hc, fun hs => ?_⟩, h6, h7, ?_⟩
  · show num _ _ < 2 ^ 32
    rw [hn]
    have h8 := h5 hs
    have h9 := clr_le (num a l) k
    have h10 : num a l < 2 ^ 32 := by unfold num; omega
    omega
  · show clr (num _ _) (lenZ s - n).toNat = num _ _
    rw [hn, ← hk]
    unfold clr
    rw [Nat.mul_div_cancel _ (Nat.two_pow_pos k)]
theorem Pf.R.u {p : Pf} (h : p.R) : p.U := ⟨h.1.1, by have := h.2.1; omega, by have := h.2.2.1; rcases lenZ_le p.1.s with g | g <;> omega⟩
theorem gb_own {a u x : World} {b : Nat} {v : Value} (h : a.grownBy u (some b)) (hg : u.grownBy x v.ownBlock) (hv : ∀ k, v.ownBlock = some k → a.heap.size ≤ k) : a.grownBy x (some b) :=
  ⟨hg.os.trans h.os, hg.tape.trans h.tape, hg.output.trans h.output, Nat.le_trans h.size hg.size, fun i hi hne => (hg.block i (by have := h.size; omega) (fun e => by have := hv i e.symm; omega)).trans (h.block i hi hne)⟩
theorem str_own {u x : World} {b R : Nat} {v : Value} (h : Str u b R) (hg : u.grownBy x v.ownBlock) (hv : ∀ k, v.ownBlock = some k → b < k) : Str x b R :=
  h.upto fun j hj => hg.block j (by have := h.lt; omega) (fun e => by have := hv j e.symm; omega)

attribute [local go_sem] Oper.semAt_some

def Away (c l D : Nat) (b : Option Nat) (k : Nat) : Prop := k ≠ c ∧ k ≠ l ∧ k ≠ D ∧ b ≠ some k
structure Host (J : List Pf → Option Nat → World → Prop) (n0 c l D : Nat) : Prop where
  abides : ∀ pre b W W' row, J pre b W → W.grownBy W' row → (∀ r, row = some r → Away c l D b r) → J pre b W'
  lt : ∀ pre b W, J pre b W → c < W.heap.size ∧ l < W.heap.size ∧ D < W.heap.size ∧ ∀ k, b = some k → n0 ≤ k ∧ k < W.heap.size
  base : n0 ≤ c ∧ n0 ≤ l ∧ n0 ≤ D
structure Keep (n0 c l D : Nat) (b b' : Option Nat) (W W' : World) : Prop where
  below : Below n0 W W'
  size : W.heap.size ≤ W'.heap.size
  row : b' = b ∨ ∃ k, W.heap.size ≤ k ∧ b' = some k
  same : ∀ k, k < W.heap.size → Away c l D b k → W'.heap[k]? = W.heap[k]?
theorem Keep.blk {n0 c l D : Nat} {b b' : Option Nat} {W W' : World} (h : Keep n0 c l D b b' W W') {k : Nat} {cs : List Value} {t : TypeId} (hB : Blk W k cs t) (ha : Away c l D b k) : Blk W' k cs t := (h.same k hB.lt ha).trans hB
theorem Host.below {J : List Pf → Option Nat → World → Prop} {n0 c l D : Nat} (H : Host J n0 c l D) {pre : List Pf} {b : Option Nat} {W W' : World} (h : J pre b W) (hb : Below W.heap.size W W') : J pre b W' :=
  H.abides _ _ _ _ none h (gbB hb) (fun r e => by cases e)
theorem Host.row {J : List Pf → Option Nat → World → Prop} {n0 c l D : Nat} (H : Host J n0 c l D) {pre : List Pf} {b : Option Nat} {W : World} (h : J pre b W) {k : Nat} (ha : Away c l D b k) (cs : Array Value) : J pre b (W.setRow k cs) :=
  H.abides _ _ _ _ (some k) h (gb_setRow cs) (fun r e => by cases e; exact ha)
theorem nextV_full {a : Ad} (h : a.R) : ∃ z ok, nextV a = .tuple #[adA z, .bool ok] ∧ (ok = true → z.R ∧ z.s = a.s ∧ z.n = a.n + 1) ∧ (ok = false → a.n = topN a.s) := by
  unfold nextV
  by_cases ht : a.n = topN a.s
  · rw [if_pos ht]
    exact ⟨⟨false, 0, 0⟩, false, rfl, (fun e => by cases e), fun _ => ht⟩
  · rw [if_neg ht]
    have hle := h.le_top
    have htl := topN_lt a.s
    refine ⟨adOf (a.n + 1), true, rfl, fun _ => ?_, fun e => by cases e⟩
    have hs : (adOf (a.n + 1)).s = a.s := by
      obtain ⟨s1, s2⟩ := next_step h ht
      by_cases hl : a.lo < 18446744073709551615
      · rw [s1 hl]
      · rw [(s2 hl).2.2]
    have hn : (adOf (a.n + 1)).n = a.n + 1 := adOf_n (by omega)
    refine ⟨⟨adOf_U _, fun e => ?_⟩, hs, hn⟩
    have e' : a.s = false := by rw [← hs]; exact e
    rw [e', topN_false] at hle ht
    rw [adOf_v]; omega

end Go.Proofs.YtfpcalgkfagjkaaGreatDoor
namespace Go.Proofs.YtfpcalgkfagjkaaGreatDoor
open Go.RowKit

attribute [local go_sem] Oper.semAt_some

section
variable {α : Type} {E : Enc α} {t : TypeId}
end
end Go.Proofs.YtfpcalgkfagjkaaGreatDoor
namespace Go.Proofs.YtfpcalgkfagjkaaGreatDoor
open Go.RowKit

theorem orE_blk (l : List Int) (p cap : Nat) (w : World) (t : TypeId) (h : Blk w p (l.map (Value.int .i64)) t) (hl : l.length ≤ 100) :
    Calls Tryz.prog 26 #[.slice (some ⟨p, 0, none⟩) l.length cap] w fun e w' => e = .returned (.int .i64 (firstZ l)) ∧ w = w' :=
  or_any l p cap w (fun i hi => h.cell (by simp [List.getElem?_eq_getElem hi])) hl
theorem errs_blk (l : List Int) (p cap : Nat) (w : World) (t : TypeId) (h : Blk w p (l.map (Value.int .i64)) t) (hl : l.length ≤ 100) :
    Calls Tryz.prog 14 #[.slice (some ⟨p, 0, none⟩) l.length cap] w fun e w' => e = .returned (.int .i64 (firstZ l)) ∧ w = w' :=
  errs_any l p cap w (fun i hi => h.cell (by simp [List.getElem?_eq_getElem hi])) hl

theorem firstZ_both (a b : Int) : firstZ [a, b] = 0 ↔ a = 0 ∧ b = 0 := by
  unfold firstZ firstZ firstZ
  by_cases h : a = 0
  · rw [if_pos h]
    by_cases h2 : b = 0
    · rw [if_pos h2]; exact ⟨fun _ => ⟨h, h2⟩, fun _ => rfl⟩
    · rw [if_neg h2]; exact ⟨fun e => absurd e h2, fun e => e.2⟩
  · rw [if_neg h]; exact ⟨fun e => absurd e h, fun e => e.1⟩

end Go.Proofs.YtfpcalgkfagjkaaGreatDoor
