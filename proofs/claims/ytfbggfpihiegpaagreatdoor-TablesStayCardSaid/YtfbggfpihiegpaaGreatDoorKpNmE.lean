/- strings.SplitSeq at a point: what it yields. -/
import Derived.Test.YtfbggfpihiegpaaGreatDoorKpNmB
import Derived.Test.YtfbggfpihiegpaaGreatDoorKpPsA
import Derived.Test.YtfbggfpihiegpaaGreatDoorKpAddressed
import Derived.Test.YtfbggfpihiegpaaGreatDoorKpShelf
import Derived.RangeFuncNested
import Derived.RangeFuncBound
import Derived.RangeFuncCalls
import Derived.RangeFuncLeaves
import Derived.Shelf.Abstract
import Derived.Shelf.RegionOpen
import Derived.WalkKit
import Derived.OwnWalkIn
import Derived.TacticsInMore
import Derived.LoopNIn
import Derived.LoopIn
set_option linter.unusedVariables false
set_option linter.unusedSimpArgs false
namespace Go.Proofs.YtfbggfpihiegpaaGreatDoor
open Go.RowKit


attribute [local go_sem] Oper.semAt_some

theorem idx_cases (c : UInt8) : ∀ l : List UInt8, (Lib.indexByte l c = -1 ∧ c ∉ l) ∨ ∃ a b, l = a ++ c :: b ∧ c ∉ a ∧ Lib.indexByte l c = a.length
  | [] => .inl ⟨rfl, List.not_mem_nil⟩
  | x :: l => by
    unfold Lib.indexByte
    by_cases h : x = c
    · subst h
      rw [if_pos (by simp)]
      exact .inr ⟨[], l, rfl, List.not_mem_nil, rfl⟩
    · rw [if_neg (by simpa using h)]
      rcases idx_cases c l with ⟨h1, h2⟩ | ⟨a, b, h1, h2, h3⟩
      · rw [h1, if_pos (by rfl)]
        exact .inl ⟨rfl, fun m => by
          rcases List.mem_cons.1 m with e | e
          · exact h e.symm
          · exact h2 e⟩
      · rw [h3, if_neg (by rw [beq_iff_eq]; omega)]
        refine .inr ⟨x :: a, b, by rw [h1]; rfl, fun m => ?_, by rw [List.length_cons]; omega⟩
        rcases List.mem_cons.1 m with e | e
        · exact h e.symm
        · exact h2 e
def strAt (W : World) (b : Nat) : List UInt8 := match W.cell? ⟨b, 0, none⟩ with
  | some (.string t) => t.data.toList
  | _ => []
theorem strAt_box {W : World} {b : Nat} {t : TypeId} {l : List UInt8} (h : Boxed W b t (.string ⟨l.toArray⟩)) : strAt W b = l := by
  unfold strAt; rw [h.cell]
structure HostN (J : List (List UInt8) → World → Prop) (n0 c l D : Nat) : Prop where
  abides : ∀ pre W W', J pre W → W.heap.size ≤ W'.heap.size → (∀ k, k = c ∨ k = l ∨ k = D → W'.heap[k]? = W.heap[k]?) → J pre W'
  base : n0 ≤ c ∧ n0 ≤ l ∧ n0 ≤ D
structure KeepN (n0 c l D : Nat) (W W' : World) : Prop where
  below : Below n0 W W'
  size : W.heap.size ≤ W'.heap.size
  same : ∀ k, k < W.heap.size → k ≠ c → k ≠ l → k ≠ D → W'.heap[k]? = W.heap[k]?
theorem HostN.set {J : List (List UInt8) → World → Prop} {n0 c l D : Nat} (H : HostN J n0 c l D) {pre : List (List UInt8)} {W : World} (h : J pre W) {b : Nat} (h1 : b ≠ c) (h2 : b ≠ l) (h3 : b ≠ D) (v : Value) : J pre (W.setCell ⟨b, 0, none⟩ v) :=
  H.abides _ _ _ h (by simp [World.setCell]) (fun k hk => Below.heap_setCell _ _ _ _ (by
    show k ≠ b
    rintro rfl
    rcases hk with e | e | e
    · exact h1 e
    · exact h2 e
    · exact h3 e))

end Go.Proofs.YtfbggfpihiegpaaGreatDoor
