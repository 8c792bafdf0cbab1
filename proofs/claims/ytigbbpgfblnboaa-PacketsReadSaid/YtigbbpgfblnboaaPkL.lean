/- Packets: a packet is loaded whole. -/
import Derived.Test.YtigbbpgfblnboaaPkG
namespace Go.Proofs.Ytigbbpgfblnboaa
open Go.RowKit

/-- The load of a packet, as one step. -/
def ldPk (p : Value) : Sem Next := do
  let x ← Instr.loadAt 45 p
  pure (.value x)
@[go_sem ↓ high] theorem execOp_ldPk (ρ : Operand → Value) (dst : Option Tmp) (x : Operand) (ty : TypeId) (pos : String) (after : Array Edge) (guard : Option (Nat × Bool)) :
    execOp ρ ⟨dst, .load 45 x, ty, pos, after, guard⟩ = ldPk (ρ x) := rfl
@[go_sem high] theorem execOp_ldPk' (ρ : Operand → Value) (dst : Option Tmp) (x : Operand) (ty : TypeId) (pos : String) (after : Array Edge) (guard : Option (Nat × Bool)) :
    execOp ρ ⟨dst, .load 45 x, ty, pos, after, guard⟩ = ldPk (ρ x) := rfl
theorem ldPk_run {w : World} {p : Nat} {q : Pk} {v : Value} {t : TypeId} (h : Blk w p (pkL q v) t) : (ldPk (.pointer (some ⟨p, 0, none⟩))).run Try.prog w = .ok (.value (pkV q v)) w := by
  unfold ldPk
  have hl := run_loadVar_row (P := Try.prog) w p t 45 (pkL q v).toArray (0, 0) _ h Try.underlying45 rfl (by kernel_rfl)
  simp only [Instr.loadAt, Instr.sureAddr, Sem.run_bind, Sem.run_pure, Result.andThen_ok, hl]
end Go.Proofs.Ytigbbpgfblnboaa
