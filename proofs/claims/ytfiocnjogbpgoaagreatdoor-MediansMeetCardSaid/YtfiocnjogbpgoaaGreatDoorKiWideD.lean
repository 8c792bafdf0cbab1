/- Wide numbers: PrefixFault. -/
import Derived.Test.YtfiocnjogbpgoaaGreatDoorKiAddressed
import Derived.Deep.RegionHeld3
import Derived.Deep.DeepCutAuto
namespace Go.Proofs.YtfiocnjogbpgoaaGreatDoor
open Go.RowKit

/-- Two wide numbers are equal. -/
def wideEq (A B : Nat) (s t : Bool) : Bool := dig A 0 == dig B 0 && (dig A 1 == dig B 1 && (dig A 2 == dig B 2 && (dig A 3 == dig B 3 && (dig A 4 == dig B 4 && (dig A 5 == dig B 5 && (dig A 6 == dig B 6 && (dig A 7 == dig B 7 && b2i s == b2i t)))))))

set_option maxHeartbeats 1000000 in
@[go_sem] theorem wide_equalIn (A B : Nat) (s t : Bool) (w : World) : (Op.equalIn 10000 129 (wV A s) (wV B t)).run Tryz.prog w = .ok (wideEq A B s t) w := by
  have u3 := Tryz.underlying3
  have a3 := Tryz.isAgg3
  have z3 := Tryz.sizeOf3
  have ei : ∀ a b : Nat, ((a : Int) = (b : Int)) = (a = b) := fun a b => propext Int.ofNat_inj
  rw [show (10000 : Nat) = 9999 + 1 from rfl, Op.equalIn]
  simp only [Sem.run_bind, run_underlying Tryz.underlying129, Result.andThen_ok]
  simp only [Std.Legacy.Range.forIn_eq_forIn_range', Std.Legacy.Range.size, Nat.sub_zero, Nat.add_sub_cancel, Nat.div_one, List.range'_succ, List.range'_zero, List.forIn_cons, List.forIn_nil]
  go_simp
  unfold wideEq
  (repeat' split) <;> simp_all

/-- The test '!=' of two wide numbers, as one step. -/
def neqW (x y : Operand) (a b : Value) : Sem Next := do
  let v ← (do eqGuard .neq 129 x y a b; binOp .neq 129 a b)
  pure (.value v)
@[go_sem ↓ high] theorem execOp_neqW (ρ : Operand → Value) (dst : Option Tmp) (x y : Operand) (r ty : TypeId) (pos : String) (after : Array Edge) (guard : Option (Nat × Bool)) :
    execOp ρ ⟨dst, .binOp .neq 129 x y r, ty, pos, after, guard⟩ = neqW x y (ρ x) (ρ y) := rfl
@[go_sem high] theorem execOp_neqW' (ρ : Operand → Value) (dst : Option Tmp) (x y : Operand) (r ty : TypeId) (pos : String) (after : Array Edge) (guard : Option (Nat × Bool)) :
    execOp ρ ⟨dst, .binOp .neq 129 x y r, ty, pos, after, guard⟩ = neqW x y (ρ x) (ρ y) := rfl
@[go_sem] theorem run_neqW (x y : Operand) (A B : Nat) (s t : Bool) (w : World) : (neqW x y (wV A s) (wV B t)).run Tryz.prog w = .ok (.value (.bool (!wideEq A B s t))) w := by
  unfold neqW
  go_simp

end Go.Proofs.YtfiocnjogbpgoaaGreatDoor
