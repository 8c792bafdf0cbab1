/- Prefixes: equality of prefixes and addresses; the first error; contains, Contains. -/
import Derived.Test.YtkldcmmlllkhkaaGreatDoorKqStC
import Derived.Test.YtkldcmmlllkhkaaGreatDoorKqSiteB
import Derived.Test.YtkldcmmlllkhkaaGreatDoorKqWays
set_option linter.unusedVariables false
set_option linter.unusedSimpArgs false
namespace Go.Proofs.YtkldcmmlllkhkaaGreatDoor
open Go.RowKit

def pfQ (s t : Bool) (a b c d n m : Int) : Bool := s == t && (a == c && (b == d && n == m))
@[go_sem] theorem pfQ_refl (s : Bool) (a b n : Int) : pfQ s s a b a b n n = true := by simp [pfQ]
def adQ (s t : Bool) (a b c d : Int) : Bool := s == t && (a == c && b == d)
@[go_sem] theorem adQ_refl (s : Bool) (a b : Int) : adQ s s a b a b = true := by simp [adQ]
set_option maxHeartbeats 1000000 in
theorem pfQ_equalIn (s t : Bool) (a b c d n m : Int) (w : World) : (Op.equalIn 10000 41 (.agg #[.bool s, .int .u64 a, .int .u64 b, .int .i64 n]) (.agg #[.bool t, .int .u64 c, .int .u64 d, .int .i64 m])).run Tryz.prog w = .ok (pfQ s t a b c d n m) w := by
  rw [show (10000 : Nat) = 9999 + 1 from rfl, run_equalIn_agg w 9999 41 _ _ (by kernel_rfl) (by kernel_rfl)]
  simp only [Program.fieldsOf, Tryz.underlying41]
  go_simp
  unfold pfQ
  (repeat' split) <;> simp_all
set_option maxHeartbeats 1000000 in
theorem adQ_equalIn (s t : Bool) (a b c d : Int) (w : World) : (Op.equalIn 10000 39 (.agg #[.bool s, .int .u64 a, .int .u64 b]) (.agg #[.bool t, .int .u64 c, .int .u64 d])).run Tryz.prog w = .ok (adQ s t a b c d) w := by
  rw [show (10000 : Nat) = 9999 + 1 from rfl, run_equalIn_agg w 9999 39 _ _ (by kernel_rfl) (by kernel_rfl)]
  simp only [Program.fieldsOf, Tryz.underlying39]
  go_simp
  unfold adQ
  (repeat' split) <;> simp_all
def eqPf (x y : Operand) (a b : Value) : Sem Next := do
  let v ← (do eqGuard .eql 41 x y a b; binOp .eql 41 a b)
  pure (.value v)
@[go_sem ↓ high] theorem execOp_eqPf' (ρ : Operand → Value) (dst : Option Tmp) (x y : Operand) (r ty : TypeId) (pos : String) (after : Array Edge) (guard : Option (Nat × Bool)) :
    execOp ρ ⟨dst, .binOp .eql 41 x y r, ty, pos, after, guard⟩ = eqPf x y (ρ x) (ρ y) := rfl
@[go_sem high] theorem execOp_eqPf (ρ : Operand → Value) (dst : Option Tmp) (x y : Operand) (r ty : TypeId) (pos : String) (after : Array Edge) (guard : Option (Nat × Bool)) :
    execOp ρ ⟨dst, .binOp .eql 41 x y r, ty, pos, after, guard⟩ = eqPf x y (ρ x) (ρ y) := rfl
@[go_sem] theorem run_eqPf (x y : Operand) (s t : Bool) (a b c d n m : Int) (w : World) : (eqPf x y (.agg #[.bool s, .int .u64 a, .int .u64 b, .int .i64 n]) (.agg #[.bool t, .int .u64 c, .int .u64 d, .int .i64 m])).run Tryz.prog w = .ok (.value (.bool (pfQ s t a b c d n m))) w := by
  unfold eqPf
  simp only [Sem.run_bind, run_eql_struct, pfQ_equalIn, run_eqGuard_agg _ _ _ _ _ _ _ Tryz.eqGuardType41, Result.andThen_ok, Sem.run_pure]
def nePf (x y : Operand) (a b : Value) : Sem Next := do
  let v ← (do eqGuard .neq 41 x y a b; binOp .neq 41 a b)
  pure (.value v)
@[go_sem ↓ high] theorem execOp_nePf' (ρ : Operand → Value) (dst : Option Tmp) (x y : Operand) (r ty : TypeId) (pos : String) (after : Array Edge) (guard : Option (Nat × Bool)) :
    execOp ρ ⟨dst, .binOp .neq 41 x y r, ty, pos, after, guard⟩ = nePf x y (ρ x) (ρ y) := rfl
@[go_sem high] theorem execOp_nePf (ρ : Operand → Value) (dst : Option Tmp) (x y : Operand) (r ty : TypeId) (pos : String) (after : Array Edge) (guard : Option (Nat × Bool)) :
    execOp ρ ⟨dst, .binOp .neq 41 x y r, ty, pos, after, guard⟩ = nePf x y (ρ x) (ρ y) := rfl
@[go_sem] theorem run_nePf (x y : Operand) (s t : Bool) (a b c d n m : Int) (w : World) : (nePf x y (.agg #[.bool s, .int .u64 a, .int .u64 b, .int .i64 n]) (.agg #[.bool t, .int .u64 c, .int .u64 d, .int .i64 m])).run Tryz.prog w = .ok (.value (.bool (!pfQ s t a b c d n m))) w := by
  unfold nePf
  simp only [Sem.run_bind, run_neq_struct, pfQ_equalIn, run_eqGuard_agg _ _ _ _ _ _ _ Tryz.eqGuardType41, Result.andThen_ok, Sem.run_pure]
def eqAd (x y : Operand) (a b : Value) : Sem Next := do
  let v ← (do eqGuard .eql 39 x y a b; binOp .eql 39 a b)
  pure (.value v)
@[go_sem ↓ high] theorem execOp_eqAd' (ρ : Operand → Value) (dst : Option Tmp) (x y : Operand) (r ty : TypeId) (pos : String) (after : Array Edge) (guard : Option (Nat × Bool)) :
    execOp ρ ⟨dst, .binOp .eql 39 x y r, ty, pos, after, guard⟩ = eqAd x y (ρ x) (ρ y) := rfl
@[go_sem high] theorem execOp_eqAd (ρ : Operand → Value) (dst : Option Tmp) (x y : Operand) (r ty : TypeId) (pos : String) (after : Array Edge) (guard : Option (Nat × Bool)) :
    execOp ρ ⟨dst, .binOp .eql 39 x y r, ty, pos, after, guard⟩ = eqAd x y (ρ x) (ρ y) := rfl
@[go_sem] theorem run_eqAd (x y : Operand) (s t : Bool) (a b c d : Int) (w : World) : (eqAd x y (.agg #[.bool s, .int .u64 a, .int .u64 b]) (.agg #[.bool t, .int .u64 c, .int .u64 d])).run Tryz.prog w = .ok (.value (.bool (adQ s t a b c d))) w := by
  unfold eqAd
  simp only [Sem.run_bind, run_eql_struct, adQ_equalIn, run_eqGuard_agg _ _ _ _ _ _ _ Tryz.eqGuardType39, Result.andThen_ok, Sem.run_pure]
def neAd (x y : Operand) (a b : Value) : Sem Next := do
  let v ← (do eqGuard .neq 39 x y a b; binOp .neq 39 a b)
  pure (.value v)
@[go_sem ↓ high] theorem execOp_neAd' (ρ : Operand → Value) (dst : Option Tmp) (x y : Operand) (r ty : TypeId) (pos : String) (after : Array Edge) (guard : Option (Nat × Bool)) :
    execOp ρ ⟨dst, .binOp .neq 39 x y r, ty, pos, after, guard⟩ = neAd x y (ρ x) (ρ y) := rfl
@[go_sem high] theorem execOp_neAd (ρ : Operand → Value) (dst : Option Tmp) (x y : Operand) (r ty : TypeId) (pos : String) (after : Array Edge) (guard : Option (Nat × Bool)) :
    execOp ρ ⟨dst, .binOp .neq 39 x y r, ty, pos, after, guard⟩ = neAd x y (ρ x) (ρ y) := rfl
@[go_sem] theorem run_neAd (x y : Operand) (s t : Bool) (a b c d : Int) (w : World) : (neAd x y (.agg #[.bool s, .int .u64 a, .int .u64 b]) (.agg #[.bool t, .int .u64 c, .int .u64 d])).run Tryz.prog w = .ok (.value (.bool (!adQ s t a b c d))) w := by
  unfold neAd
  simp only [Sem.run_bind, run_neq_struct, adQ_equalIn, run_eqGuard_agg _ _ _ _ _ _ _ Tryz.eqGuardType39, Result.andThen_ok, Sem.run_pure]

theorem cells_after {u u' : World} {l : List Int} {t : TypeId} {r : Option Nat} (h : (u.alloc (.cells (l.map (Value.int .i64)).toArray t)).grownBy u' r) (hr : ∀ b, r = some b → b < u.heap.size) (i : Nat) (hi : i < l.length) :
    u'.cell? ⟨u.heap.size, i, none⟩ = some (.int .i64 (l.getD i 0)) := by
  refine h.cell (cells_lit u l .i64 t i hi) ?_
  intro e
  have := hr _ e.symm
  exact absurd this (Nat.lt_irrefl _)

theorem ret_bool {a b : Bool} (h : a = b) : Ending.returned (.bool a) = Ending.returned (.bool b) := by rw [h]
def ctB (s : Bool) (hi lo n : Int) (t : Bool) (h l : Int) : Bool := s == t && decide (clr (num h l) (lenZ t - n).toNat = num hi lo)
end Go.Proofs.YtkldcmmlllkhkaaGreatDoor
