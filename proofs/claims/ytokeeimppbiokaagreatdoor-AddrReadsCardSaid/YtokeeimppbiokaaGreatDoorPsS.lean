/- AddrReads: Parse and Loose are as specified for all strings. -/
import Derived.Test.YtokeeimppbiokaaGreatDoorPsR
import Derived.Test.YtokeeimppbiokaaGreatDoorAddressed
namespace Go.Proofs.YtokeeimppbiokaaGreatDoor
open Go.RowKit
set_option linter.unusedVariables false
set_option linter.unusedSimpArgs false

set_option maxHeartbeats 1000000 in
theorem ad_same (s : Bool) (a b : Int) (w : World) : (Op.equalIn 10000 29 (.agg #[.bool s, .int .u64 a, .int .u64 b]) (.agg #[.bool s, .int .u64 a, .int .u64 b])).run Tryz.prog w = .ok true w := by
  rw [show (10000 : Nat) = 9999 + 1 from rfl, run_equalIn_agg w 9999 29 _ _ (by kernel_rfl) (by kernel_rfl)]
  simp only [Program.fieldsOf, Tryz.underlying29]
  go_simp
/-- A test of two values, as one step. -/
def eqAs (x y : Operand) (a b : Value) : Sem Next := do
  let v ← (do eqGuard .eql 29 x y a b; binOp .eql 29 a b)
  pure (.value v)
@[go_sem ↓ high] theorem execOp_eqAs' (ρ : Operand → Value) (dst : Option Tmp) (x y : Operand) (r ty : TypeId) (pos : String) (after : Array Edge) (guard : Option (Nat × Bool)) :
    execOp ρ ⟨dst, .binOp .eql 29 x y r, ty, pos, after, guard⟩ = eqAs x y (ρ x) (ρ y) := rfl
@[go_sem high] theorem execOp_eqAs (ρ : Operand → Value) (dst : Option Tmp) (x y : Operand) (r ty : TypeId) (pos : String) (after : Array Edge) (guard : Option (Nat × Bool)) :
    execOp ρ ⟨dst, .binOp .eql 29 x y r, ty, pos, after, guard⟩ = eqAs x y (ρ x) (ρ y) := rfl
@[go_sem] theorem run_eqAs (x y : Operand) (s : Bool) (a b : Int) (w : World) : (eqAs x y (.agg #[.bool s, .int .u64 a, .int .u64 b]) (.agg #[.bool s, .int .u64 a, .int .u64 b])).run Tryz.prog w = .ok (.value (.bool true)) w := by
  unfold eqAs
  simp only [Sem.run_bind, run_eql_struct, ad_same, run_eqGuard_agg _ _ _ _ _ _ _ Tryz.eqGuardType29, Result.andThen_ok, Sem.run_pure]

theorem addrE_shape (o : Option (Bool × Nat × Nat)) : ∃ (s : Bool) (h l e : Int), addrE o = .tuple #[.agg #[.bool s, .int .u64 h, .int .u64 l], .int .i64 e] := by
  cases o with
  | none => exact ⟨_, _, _, _, rfl⟩
  | some x => obtain ⟨s, h, l⟩ := x; exact ⟨_, _, _, _, rfl⟩

set_option maxHeartbeats 4000000 in
set_option maxRecDepth 100000 in
theorem addrReads_walk (a : Option Addr) (len cap : Nat) (w : World) (hC : Cons w) (hs : Str (w.alloc (.cells #[.slice a len cap, .int .i64 0] 25)) w.heap.size 1000) :
    Calls Tryz.prog 3 #[.slice a len cap] w fun e w' => e = .returned (.bool true) ∧ Below w.heap.size w w' := by
  have hB0 : Below w.heap.size w (w.alloc (.cells #[.slice a len cap, .int .i64 0] 25)) := (Below.refl _ _).alloc (Nat.le_refl _) _
  have hT0 := hC.tabs.below hB0
  have hng := hC.tabs.2.2
  go_enter Tryz.func3, Tryz.ntmps3
  go_wp2_with fail
  refine (addrString_any _ _ 990 hs hT0 hng).mono ?_
  rintro e w1 ⟨l, hl, rfl, hs1, hg1⟩
  have hb : Below w.heap.size w w1 := hB0.trans (gb_toBelow hg1 (Nat.le_refl _) (by simp))
  clear hs hB0 hT0 hng hs1 hg1
  have HP := Lib.hid (fun w' (h : Below w.heap.size w w') => parse_any l w' (hC.below h) (by omega))
  have HL := Lib.hid (fun w' (h : Below w.heap.size w w') => loose_any l w' (hC.below h) (by omega))
  have HPR := Lib.hid (fun w' (h : Below w.heap.size w w') => addrParseR_any l w' (hC.below h) (by omega))
  have HLR := Lib.hid (fun w' (h : Below w.heap.size w w') => addrLooseR_any l w' (hC.below h) (by omega))
  have HA := Lib.hid (fun w' => addressed_any w')
  obtain ⟨ps, ph, pl, pe, hp⟩ := addrE_shape (parseL l)
  obtain ⟨ls, lh, ll, le, hq⟩ := addrE_shape (looseL l)
  rw [hp] at HP HPR
  rw [hq] at HL HLR
  clear hC hp hq hl
  go_wp2_with fail
  refine (HP.out _ hb).mono ?_
  rintro e w2 ⟨rfl, hb2⟩
  replace hb := hb.trans (hb2.mono hb.size)
  have hX1 := Blk.new w2 [.bool ps, .int .u64 ph, .int .u64 pl] 29
  replace hb := hb.alloc hb.size (.cells #[.bool ps, .int .u64 ph, .int .u64 pl] 29)
  clear hb2 HP
  go_wp2_with fail
  refine (HL.out _ hb).mono ?_
  rintro e w3 ⟨rfl, hb2⟩
  replace hb := hb.trans (hb2.mono hb.size)
  replace hX1 := (hX1.below hb2).alloc (.cells #[.bool ls, .int .u64 lh, .int .u64 ll] 29)
  have hX2 := Blk.new w3 [.bool ls, .int .u64 lh, .int .u64 ll] 29
  replace hb := hb.alloc hb.size (.cells #[.bool ls, .int .u64 lh, .int .u64 ll] 29)
  clear hb2 HL
  go_wp2_with fail
  refine (HPR.out _ hb).mono ?_
  rintro e w4 ⟨rfl, hb2⟩
  replace hb := hb.trans (hb2.mono hb.size)
  replace hX1 := (hX1.below hb2).alloc (.cells #[.bool ps, .int .u64 ph, .int .u64 pl] 29)
  replace hX2 := (hX2.below hb2).alloc (.cells #[.bool ps, .int .u64 ph, .int .u64 pl] 29)
  have hX3 := Blk.new w4 [.bool ps, .int .u64 ph, .int .u64 pl] 29
  replace hb := hb.alloc hb.size (.cells #[.bool ps, .int .u64 ph, .int .u64 pl] 29)
  clear hb2 HPR
  go_wp2_with fail
  refine (HLR.out _ hb).mono ?_
  rintro e w5 ⟨rfl, hb2⟩
  replace hb := hb.trans (hb2.mono hb.size)
  replace hX1 := (hX1.below hb2).alloc (.cells #[.bool ls, .int .u64 lh, .int .u64 ll] 29)
  replace hX2 := (hX2.below hb2).alloc (.cells #[.bool ls, .int .u64 lh, .int .u64 ll] 29)
  replace hX3 := (hX3.below hb2).alloc (.cells #[.bool ls, .int .u64 lh, .int .u64 ll] 29)
  have hX4 := Blk.new w5 [.bool ls, .int .u64 lh, .int .u64 ll] 29
  replace hb := hb.alloc hb.size (.cells #[.bool ls, .int .u64 lh, .int .u64 ll] 29)
  clear hb2 HLR
  obtain ⟨a0, a1, a2, _⟩ := hX1.three
  obtain ⟨b0, b1, b2, _⟩ := hX2.three
  obtain ⟨c0, c1, c2, _⟩ := hX3.three
  obtain ⟨d0, d1, d2, _⟩ := hX4.three
  go_wp2_with fail
  refine (HA.out _).mono ?_
  rintro e w6 ⟨rfl, hb2⟩
  replace hb := hb.trans (hb2.mono hb.size)
  go_wp2_with fail
  go_ret
  exact ⟨rfl, hb⟩
end Go.Proofs.YtokeeimppbiokaaGreatDoor
