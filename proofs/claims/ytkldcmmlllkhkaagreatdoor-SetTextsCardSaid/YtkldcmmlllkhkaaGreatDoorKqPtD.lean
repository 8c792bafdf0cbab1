/- PrefixTexts: PrefixText and ParsePrefix are as specified for all prefixes and strings. -/
import Derived.Test.YtkldcmmlllkhkaaGreatDoorKqPtB
import Derived.Test.YtkldcmmlllkhkaaGreatDoorKqLaneD
import Derived.Test.YtkldcmmlllkhkaaGreatDoorKqAddressed
set_option linter.unusedVariables false
set_option linter.unusedSimpArgs false
namespace Go.Proofs.YtkldcmmlllkhkaaGreatDoor
open Go.RowKit

theorem pfxText_len (s : Bool) (hi lo n : Int) (h0 : 0 ≤ n) (h1 : n ≤ 128) : (pfxText s hi lo n).length ≤ 204 := by
  have l1 := adrText_len s hi lo
  have l2 := itoa_len n h0 (by omega)
  unfold pfxText
  rw [List.length_append, List.length_cons]
  omega

set_option maxHeartbeats 1000000 in
theorem pf_same (s : Bool) (a b n : Int) (w : World) : (Op.equalIn 10000 41 (.agg #[.bool s, .int .u64 a, .int .u64 b, .int .i64 n]) (.agg #[.bool s, .int .u64 a, .int .u64 b, .int .i64 n])).run Tryz.prog w = .ok true w := by
  rw [show (10000 : Nat) = 9999 + 1 from rfl, run_equalIn_agg w 9999 41 _ _ (by kernel_rfl) (by kernel_rfl)]
  simp only [Program.fieldsOf, Tryz.underlying41]
  go_simp
def eqPs (x y : Operand) (a b : Value) : Sem Next := do
  let v ← (do eqGuard .eql 41 x y a b; binOp .eql 41 a b)
  pure (.value v)
@[go_sem ↓ high] theorem execOp_eqPs' (ρ : Operand → Value) (dst : Option Tmp) (x y : Operand) (r ty : TypeId) (pos : String) (after : Array Edge) (guard : Option (Nat × Bool)) :
    execOp ρ ⟨dst, .binOp .eql 41 x y r, ty, pos, after, guard⟩ = eqPs x y (ρ x) (ρ y) := rfl
@[go_sem high] theorem execOp_eqPs (ρ : Operand → Value) (dst : Option Tmp) (x y : Operand) (r ty : TypeId) (pos : String) (after : Array Edge) (guard : Option (Nat × Bool)) :
    execOp ρ ⟨dst, .binOp .eql 41 x y r, ty, pos, after, guard⟩ = eqPs x y (ρ x) (ρ y) := rfl
@[go_sem] theorem run_eqPs (x y : Operand) (s : Bool) (a b n : Int) (w : World) : (eqPs x y (.agg #[.bool s, .int .u64 a, .int .u64 b, .int .i64 n]) (.agg #[.bool s, .int .u64 a, .int .u64 b, .int .i64 n])).run Tryz.prog w = .ok (.value (.bool true)) w := by
  unfold eqPs
  simp only [Sem.run_bind, run_eql_struct, pf_same, run_eqGuard_agg _ _ _ _ _ _ _ Tryz.eqGuardType41, Result.andThen_ok, Sem.run_pure]

end Go.Proofs.YtkldcmmlllkhkaaGreatDoor
