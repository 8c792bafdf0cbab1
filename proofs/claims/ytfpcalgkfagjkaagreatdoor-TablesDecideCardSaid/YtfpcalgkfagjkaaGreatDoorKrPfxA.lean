/- Prefixes: equality of prefixes and addresses; the first error; contains, Contains. -/
import Derived.Test.YtfpcalgkfagjkaaGreatDoorKrMdB
import Derived.Test.YtfpcalgkfagjkaaGreatDoorKrSiteA
import Derived.Test.YtfpcalgkfagjkaaGreatDoorKrWays
import Derived.Test.YtfpcalgkfagjkaaGreatDoorKrLaneB
set_option linter.unusedVariables false
set_option linter.unusedSimpArgs false
namespace Go.Proofs.YtfpcalgkfagjkaaGreatDoor
open Go.RowKit

def pfQ (s t : Bool) (a b c d n m : Int) : Bool := s == t && (a == c && (b == d && n == m))
@[go_sem] theorem pfQ_refl (s : Bool) (a b n : Int) : pfQ s s a b a b n n = true := by simp [pfQ]
def adQ (s t : Bool) (a b c d : Int) : Bool := s == t && (a == c && b == d)
@[go_sem] theorem adQ_refl (s : Bool) (a b : Int) : adQ s s a b a b = true := by simp [adQ]
set_option maxHeartbeats 1000000 in
theorem pfQ_equalIn (s t : Bool) (a b c d n m : Int) (w : World) : (Op.equalIn 10000 35 (.agg #[.bool s, .int .u64 a, .int .u64 b, .int .i64 n]) (.agg #[.bool t, .int .u64 c, .int .u64 d, .int .i64 m])).run Tryz.prog w = .ok (pfQ s t a b c d n m) w := by
  rw [show (10000 : Nat) = 9999 + 1 from rfl, run_equalIn_agg w 9999 35 _ _ (by kernel_rfl) (by kernel_rfl)]
  simp only [Program.fieldsOf, Tryz.underlying35]
  go_simp
  unfold pfQ
  (repeat' split) <;> simp_all
set_option maxHeartbeats 1000000 in
theorem adQ_equalIn (s t : Bool) (a b c d : Int) (w : World) : (Op.equalIn 10000 30 (.agg #[.bool s, .int .u64 a, .int .u64 b]) (.agg #[.bool t, .int .u64 c, .int .u64 d])).run Tryz.prog w = .ok (adQ s t a b c d) w := by
  rw [show (10000 : Nat) = 9999 + 1 from rfl, run_equalIn_agg w 9999 30 _ _ (by kernel_rfl) (by kernel_rfl)]
  simp only [Program.fieldsOf, Tryz.underlying30]
  go_simp
  unfold adQ
  (repeat' split) <;> simp_all
def eqPf (x y : Operand) (a b : Value) : Sem Next := do
  let v ← (do eqGuard .eql 35 x y a b; binOp .eql 35 a b)
  pure (.value v)
@[go_sem ↓ high] theorem execOp_eqPf' (ρ : Operand → Value) (dst : Option Tmp) (x y : Operand) (r ty : TypeId) (pos : String) (after : Array Edge) (guard : Option (Nat × Bool)) :
    execOp ρ ⟨dst, .binOp .eql 35 x y r, ty, pos, after, guard⟩ = eqPf x y (ρ x) (ρ y) := rfl
@[go_sem high] theorem execOp_eqPf (ρ : Operand → Value) (dst : Option Tmp) (x y : Operand) (r ty : TypeId) (pos : String) (after : Array Edge) (guard : Option (Nat × Bool)) :
    execOp ρ ⟨dst, .binOp .eql 35 x y r, ty, pos, after, guard⟩ = eqPf x y (ρ x) (ρ y) := rfl
@[go_sem] theorem run_eqPf (x y : Operand) (s t : Bool) (a b c d n m : Int) (w : World) : (eqPf x y (.agg #[.bool s, .int .u64 a, .int .u64 b, .int .i64 n]) (.agg #[.bool t, .int .u64 c, .int .u64 d, .int .i64 m])).run Tryz.prog w = .ok (.value (.bool (pfQ s t a b c d n m))) w := by
  unfold eqPf
  simp only [Sem.run_bind, run_eql_struct, pfQ_equalIn, run_eqGuard_agg _ _ _ _ _ _ _ Tryz.eqGuardType35, Result.andThen_ok, Sem.run_pure]
def nePf (x y : Operand) (a b : Value) : Sem Next := do
  let v ← (do eqGuard .neq 35 x y a b; binOp .neq 35 a b)
  pure (.value v)
@[go_sem ↓ high] theorem execOp_nePf' (ρ : Operand → Value) (dst : Option Tmp) (x y : Operand) (r ty : TypeId) (pos : String) (after : Array Edge) (guard : Option (Nat × Bool)) :
    execOp ρ ⟨dst, .binOp .neq 35 x y r, ty, pos, after, guard⟩ = nePf x y (ρ x) (ρ y) := rfl
@[go_sem high] theorem execOp_nePf (ρ : Operand → Value) (dst : Option Tmp) (x y : Operand) (r ty : TypeId) (pos : String) (after : Array Edge) (guard : Option (Nat × Bool)) :
    execOp ρ ⟨dst, .binOp .neq 35 x y r, ty, pos, after, guard⟩ = nePf x y (ρ x) (ρ y) := rfl
@[go_sem] theorem run_nePf (x y : Operand) (s t : Bool) (a b c d n m : Int) (w : World) : (nePf x y (.agg #[.bool s, .int .u64 a, .int .u64 b, .int .i64 n]) (.agg #[.bool t, .int .u64 c, .int .u64 d, .int .i64 m])).run Tryz.prog w = .ok (.value (.bool (!pfQ s t a b c d n m))) w := by
  unfold nePf
  simp only [Sem.run_bind, run_neq_struct, pfQ_equalIn, run_eqGuard_agg _ _ _ _ _ _ _ Tryz.eqGuardType35, Result.andThen_ok, Sem.run_pure]
def eqAd (x y : Operand) (a b : Value) : Sem Next := do
  let v ← (do eqGuard .eql 30 x y a b; binOp .eql 30 a b)
  pure (.value v)
@[go_sem ↓ high] theorem execOp_eqAd' (ρ : Operand → Value) (dst : Option Tmp) (x y : Operand) (r ty : TypeId) (pos : String) (after : Array Edge) (guard : Option (Nat × Bool)) :
    execOp ρ ⟨dst, .binOp .eql 30 x y r, ty, pos, after, guard⟩ = eqAd x y (ρ x) (ρ y) := rfl
@[go_sem high] theorem execOp_eqAd (ρ : Operand → Value) (dst : Option Tmp) (x y : Operand) (r ty : TypeId) (pos : String) (after : Array Edge) (guard : Option (Nat × Bool)) :
    execOp ρ ⟨dst, .binOp .eql 30 x y r, ty, pos, after, guard⟩ = eqAd x y (ρ x) (ρ y) := rfl
@[go_sem] theorem run_eqAd (x y : Operand) (s t : Bool) (a b c d : Int) (w : World) : (eqAd x y (.agg #[.bool s, .int .u64 a, .int .u64 b]) (.agg #[.bool t, .int .u64 c, .int .u64 d])).run Tryz.prog w = .ok (.value (.bool (adQ s t a b c d))) w := by
  unfold eqAd
  simp only [Sem.run_bind, run_eql_struct, adQ_equalIn, run_eqGuard_agg _ _ _ _ _ _ _ Tryz.eqGuardType30, Result.andThen_ok, Sem.run_pure]
def neAd (x y : Operand) (a b : Value) : Sem Next := do
  let v ← (do eqGuard .neq 30 x y a b; binOp .neq 30 a b)
  pure (.value v)
@[go_sem ↓ high] theorem execOp_neAd' (ρ : Operand → Value) (dst : Option Tmp) (x y : Operand) (r ty : TypeId) (pos : String) (after : Array Edge) (guard : Option (Nat × Bool)) :
    execOp ρ ⟨dst, .binOp .neq 30 x y r, ty, pos, after, guard⟩ = neAd x y (ρ x) (ρ y) := rfl
@[go_sem high] theorem execOp_neAd (ρ : Operand → Value) (dst : Option Tmp) (x y : Operand) (r ty : TypeId) (pos : String) (after : Array Edge) (guard : Option (Nat × Bool)) :
    execOp ρ ⟨dst, .binOp .neq 30 x y r, ty, pos, after, guard⟩ = neAd x y (ρ x) (ρ y) := rfl
@[go_sem] theorem run_neAd (x y : Operand) (s t : Bool) (a b c d : Int) (w : World) : (neAd x y (.agg #[.bool s, .int .u64 a, .int .u64 b]) (.agg #[.bool t, .int .u64 c, .int .u64 d])).run Tryz.prog w = .ok (.value (.bool (!adQ s t a b c d))) w := by
  unfold neAd
  simp only [Sem.run_bind, run_neq_struct, adQ_equalIn, run_eqGuard_agg _ _ _ _ _ _ _ Tryz.eqGuardType30, Result.andThen_ok, Sem.run_pure]

theorem or_any (l : List Int) (p cap : Nat) (w : World) (hz : ∀ i, i < l.length → w.cell? ⟨p, i, none⟩ = some (.int .i64 (l.getD i 0))) (hl : l.length ≤ 100) :
    Calls Tryz.prog 26 #[.slice (some ⟨p, 0, none⟩) l.length cap] w fun e w' => e = .returned (.int .i64 (firstZ l)) ∧ w = w' := by
  go_enter Tryz.func26, Tryz.ntmps26
  go_wp2_with fail
  go_loop [8] (fun c => ∃ k : Nat, k ≤ l.length ∧ c = .int .i64 k ∧ firstZ (l.drop k) = firstZ l) (fun c => l.length - (intOf c).toNat)
  case atStart => exact ⟨0, Nat.zero_le _, rfl, rfl⟩
  case round =>
    obtain ⟨k, hk, rfl, hf⟩ := hrel
    have HF := Lib.hid hf
    clear hf
    by_cases hlt : k < l.length
    · have hc := hz k hlt
      have HD := Lib.hid (show firstZ (l.drop k) = if l.getD k 0 = 0 then firstZ (l.drop (k + 1)) else l.getD k 0 by rw [List.drop_eq_getElem_cons hlt, firstZ, List.getD_eq_getElem?_getD, List.getElem?_eq_getElem hlt]; rfl)
      generalize l.getD k 0 = x at hc HD
      clear hz
      by_cases hx : x = 0
      · have HX := Lib.hid hx
        have b0 : (x != 0) = false := by simp [hx]
        clear hx
        go_wp2_with fail
        go_round
        case rel => exact ⟨k + 1, by omega, by go_num, by rw [← HF.out, HD.out, if_pos HX.out]⟩
        case measure => simp [intOf]; omega
      · have HX := Lib.hid hx
        have b0 : (x != 0) = true := by simp [hx]
        clear hx
        go_wp2_with fail
        go_ret
        exact ⟨by rw [← HF.out, HD.out, if_neg HX.out]; rfl, rfl⟩
    · have hkl : k = l.length := by omega
      have HK := Lib.hid hkl
      clear hkl hz
      go_wp2_with fail
      go_ret
      exact ⟨by rw [← HF.out, HK.out, List.drop_length]; rfl, rfl⟩



theorem ret_bool {a b : Bool} (h : a = b) : Ending.returned (.bool a) = Ending.returned (.bool b) := by rw [h]
def ctB (s : Bool) (hi lo n : Int) (t : Bool) (h l : Int) : Bool := s == t && decide (clr (num h l) (lenZ t - n).toNat = num hi lo)
end Go.Proofs.YtfpcalgkfagjkaaGreatDoor
