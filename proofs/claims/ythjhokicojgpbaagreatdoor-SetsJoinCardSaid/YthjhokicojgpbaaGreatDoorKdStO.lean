/- Sets: the reference: wide numbers. -/
import Derived.Test.YthjhokicojgpbaaGreatDoorKdStN
import Derived.Test.YthjhokicojgpbaaGreatDoorKdWideD
import Derived.Test.YthjhokicojgpbaaGreatDoorKdPfxE
namespace Go.Proofs.YthjhokicojgpbaaGreatDoor
open Go.RowKit
set_option linter.unusedVariables false
set_option linter.unusedSimpArgs false

theorem dig_six {V : Nat} (s : Bool) (hV : V < 2 ^ 128) (j : Nat) (hj : j < 8) : dig (s2n s + V) j = dig V j := by
  cases s
  · rw [s2n_false, Nat.zero_add]
  · rw [s2n_true]
    unfold dig
    have e : (2 : Nat) ^ 128 = 2 ^ (16 * j) * (2 ^ (112 - 16 * j) * 2 ^ 16) := by rw [← Nat.pow_add, ← Nat.pow_add]; congr 1; omega
    have hp := Nat.two_pow_pos (16 * j)
    rw [e, Nat.mul_add_div hp, Nat.mul_comm (2 ^ (112 - 16 * j)), Nat.add_comm, Nat.add_mul_mod_self_left]
theorem dig_top {V : Nat} (s : Bool) (hV : V < 2 ^ 128) : ((dig (s2n s + V) 8 : Nat) : Int) = b2i s := by
  unfold dig
  show (((s2n s + V) / 2 ^ 128 % 2 ^ 16 : Nat) : Int) = b2i s
  cases s
  · rw [s2n_false, Nat.zero_add, Nat.div_eq_of_lt hV]; rfl
  · rw [s2n_true, show (2 ^ 128 + V) / 2 ^ 128 = 1 by omega]; rfl
theorem wV_wA {V : Nat} (s : Bool) (hV : V < 2 ^ 128) : wV V s = wA (s2n s + V) := by
  unfold wV wA digN
  rw [dig_six s hV 0 (by decide), dig_six s hV 1 (by decide), dig_six s hV 2 (by decide), dig_six s hV 3 (by decide), dig_six s hV 4 (by decide), dig_six s hV 5 (by decide), dig_six s hV 6 (by decide), dig_six s hV 7 (by decide), dig_top s hV]
theorem of_w (a : Ad) (w : World) (h : a.U) : Calls Tryz.prog 64 #[adA a] w (GivesV (wA a.n) w) := by
  have := of_any a.s a.hi a.lo w h.1.1 h.1.2 h.2.1 h.2.2
  rwa [wV_wA a.s (show num a.hi a.lo < 2 ^ 128 from h.v_lt)] at this
theorem fil_n {p : Pf} (h : p.R) : s2n p.1.s + fil p.1.v (freeB p) = p.1.n + 2 ^ freeB p - 1 := by
  rw [fil_blk h]
  have := Nat.two_pow_pos (freeB p)
  unfold Ad.n; omega
theorem lastOf_w (p : Pf) (w : World) (h : p.R) : Calls Tryz.prog 129 #[pfA p] w (GivesV (wA (p.1.n + 2 ^ freeB p - 1)) w) := by
  have hv : fil p.1.v (freeB p) < 2 ^ 128 := fil_lt h.free_le.1 h.1.1.v_lt
  have := lastOf_any p.1.s p.1.hi p.1.lo p.2 w h.1.1.1.1 h.1.1.1.2 h.1.1.2.1 h.1.1.2.2 h.2.1 h.2.2.1
  rw [wV_wA p.1.s (show fil (num p.1.hi p.1.lo) (lenZ p.1.s - p.2).toNat < 2 ^ 128 from hv)] at this
  rwa [show s2n p.1.s + fil (num p.1.hi p.1.lo) (lenZ p.1.s - p.2).toNat = p.1.n + 2 ^ freeB p - 1 from fil_n h] at this
theorem clr_le (V k : Nat) : clr V k ≤ V := Nat.div_mul_le_self _ _
theorem firstOf_w (a : Ad) (n : Int) (w : World) (h : a.U) (hn1 : 0 ≤ n) (hn2 : n ≤ lenZ a.s) : Calls Tryz.prog 74 #[adA a, .int .i64 n] w (GivesV (wA (s2n a.s + clr a.v (lenZ a.s - n).toNat)) w) := by
  have hv : clr a.v (lenZ a.s - n).toNat < 2 ^ 128 := Nat.lt_of_le_of_lt (clr_le _ _) h.v_lt
  have := firstOf_any a.s a.hi a.lo n w h.1.1 h.1.2 h.2.1 h.2.2 hn1 hn2
  rwa [wV_wA a.s (show clr (num a.hi a.lo) (lenZ a.s - n).toNat < 2 ^ 128 from hv)] at this
theorem wA_adOf {W : Nat} (h : W < 2 ^ 129) : wA W = wV (W % 2 ^ 128) (decide (2 ^ 128 ≤ W)) := by
  rw [wV_wA _ (Nat.mod_lt _ (by decide))]
  congr 2
  by_cases hs : 2 ^ 128 ≤ W
  · rw [decide_eq_true hs, s2n_true]; congr 1; omega
  · rw [decide_eq_false hs, s2n_false]; congr 1; omega
theorem length_w (a : Ad) (w : World) : Calls Tryz.prog 73 #[adA a] w (GivesV (.int .i64 (lenZ a.s)) w) := length_any a.s a.hi a.lo w

/-- Two wide numbers are equal. -/
def eqN (A B : Nat) : Bool := dig A 0 == dig B 0 && (dig A 1 == dig B 1 && (dig A 2 == dig B 2 && (dig A 3 == dig B 3 && (dig A 4 == dig B 4 && (dig A 5 == dig B 5 && (dig A 6 == dig B 6 && (dig A 7 == dig B 7 && dig A 8 == dig B 8)))))))
set_option maxHeartbeats 1000000 in
theorem wide_equalN (A B : Nat) (w : World) : (Op.equalIn 10000 90 (.agg (digN A).toArray) (.agg (digN B).toArray)).run Tryz.prog w = .ok (eqN A B) w := by
  have u3 := Tryz.underlying3
  have a3 := Tryz.isAgg3
  have z3 := Tryz.sizeOf3
  have ei : ∀ a b : Nat, ((a : Int) = (b : Int)) = (a = b) := fun a b => propext Int.ofNat_inj
  unfold digN
  rw [show (10000 : Nat) = 9999 + 1 from rfl, Op.equalIn]
  simp only [Sem.run_bind, run_underlying Tryz.underlying90, Result.andThen_ok]
  simp only [Std.Legacy.Range.forIn_eq_forIn_range', Std.Legacy.Range.size, Nat.sub_zero, Nat.add_sub_cancel, Nat.div_one, List.range'_succ, List.range'_zero, List.forIn_cons, List.forIn_nil]
  go_simp
  unfold eqN
  (repeat' split) <;> simp_all
@[go_sem] theorem run_neqN (x y : Operand) (A B : Nat) (w : World) : (neqW x y (.agg (digN A).toArray) (.agg (digN B).toArray)).run Tryz.prog w = .ok (.value (.bool (!eqN A B))) w := by
  have := wide_equalN A B w
  unfold neqW
  go_simp
/-- The test '==' of two wide numbers, as one step. -/
def eqlW (x y : Operand) (a b : Value) : Sem Next := do
  let v ← (do eqGuard .eql 90 x y a b; binOp .eql 90 a b)
  pure (.value v)
@[go_sem ↓ high] theorem execOp_eqlW (ρ : Operand → Value) (dst : Option Tmp) (x y : Operand) (r ty : TypeId) (pos : String) (after : Array Edge) (guard : Option (Nat × Bool)) :
    execOp ρ ⟨dst, .binOp .eql 90 x y r, ty, pos, after, guard⟩ = eqlW x y (ρ x) (ρ y) := rfl
@[go_sem high] theorem execOp_eqlW' (ρ : Operand → Value) (dst : Option Tmp) (x y : Operand) (r ty : TypeId) (pos : String) (after : Array Edge) (guard : Option (Nat × Bool)) :
    execOp ρ ⟨dst, .binOp .eql 90 x y r, ty, pos, after, guard⟩ = eqlW x y (ρ x) (ρ y) := rfl
@[go_sem] theorem run_eqlN (x y : Operand) (A B : Nat) (w : World) : (eqlW x y (.agg (digN A).toArray) (.agg (digN B).toArray)).run Tryz.prog w = .ok (.value (.bool (eqN A B))) w := by
  have := wide_equalN A B w
  unfold eqlW
  go_simp
theorem eqN_iff {A B : Nat} (hA : A < 2 ^ 144) (hB : B < 2 ^ 144) : eqN A B = decide (A = B) := by
  by_cases h : A = B
  · subst h; simp [eqN]
  · rw [decide_eq_false h]
    cases hw : eqN A B
    · rfl
    · exfalso
      unfold eqN at hw
      simp only [Bool.and_eq_true, beq_iff_eq] at hw
      obtain ⟨a0, a1, a2, a3, a4, a5, a6, a7, a8⟩ := hw
      apply h
      have hd : ∀ j, j < 9 → dig A j = dig B j := fun j hj => by
        match j, hj with
        | 0, _ => exact a0
        | 1, _ => exact a1
        | 2, _ => exact a2
        | 3, _ => exact a3
        | 4, _ => exact a4
        | 5, _ => exact a5
        | 6, _ => exact a6
        | 7, _ => exact a7
        | 8, _ => exact a8
      have step : ∀ j, j ≤ 9 → A / 2 ^ (16 * (9 - j)) = B / 2 ^ (16 * (9 - j)) := fun j => by
        induction j with
        | zero => intro _; show A / 2 ^ 144 = B / 2 ^ 144; rw [Nat.div_eq_of_lt hA, Nat.div_eq_of_lt hB]
        | succ j ih =>
          intro hj
          have i := ih (by omega)
          rw [show 9 - j = (9 - (j + 1)) + 1 by omega] at i
          exact (cmpN_step A B _ i).1 (hd _ (by omega))
      have := step 9 (Nat.le_refl _)
      simpa using this

theorem and16z (x : Int) (h1 : -9223372036854775808 ≤ x) (h2 : x < 9223372036854775808) : bits .and .i64 x 65535 = x % 65536 := by
  have hm : (BitVec.ofInt 64 65535).toNat = 2 ^ 16 - 1 := by decide
  have key : (BitVec.ofInt 64 x &&& BitVec.ofInt 64 65535).toNat = (x % ((2 ^ 64 : Nat) : Int)).toNat % 2 ^ 16 := by
    rw [BitVec.toNat_and, BitVec.toNat_ofInt, hm, Nat.and_two_pow_sub_one_eq_mod]
  show IntKind.i64.wrap ((BitVec.ofInt 64 x &&& BitVec.ofInt 64 65535).toNat : Nat) = x % 65536
  rw [key, IntKind.wrap_i64]
  omega

/-- A digit of a sum, with what is carried to it. -/
theorem plus_digit {W S : Nat} {c : Int} {j : Nat} (h : c + ((W / 2 ^ (16 * j) : Nat) : Int) = ((S / 2 ^ (16 * j) : Nat) : Int)) :
    (c + (dig W j : Nat)) % 65536 = (dig S j : Nat) ∧ (c + (dig W j : Nat)) / 65536 + ((W / 2 ^ (16 * (j + 1)) : Nat) : Int) = ((S / 2 ^ (16 * (j + 1)) : Nat) : Int) := by
  have e : ∀ V : Nat, V / 2 ^ (16 * (j + 1)) = V / 2 ^ (16 * j) / 65536 := fun V => by
    rw [Nat.div_div_eq_div_mul, show 16 * (j + 1) = 16 * j + 16 by omega, Nat.pow_add]
  rw [e, e]
  unfold dig
  generalize W / 2 ^ (16 * j) = a at *
  generalize S / 2 ^ (16 * j) = b at *
  constructor <;> omega
/-- The digits of S ahead of k, those of W from there on. -/
def mixD (W S k j : Nat) : Nat := if j < k then dig S j else dig W j
def mixN (W S k : Nat) : List Value := [.int .i64 (mixD W S k 0 : Nat), .int .i64 (mixD W S k 1 : Nat), .int .i64 (mixD W S k 2 : Nat), .int .i64 (mixD W S k 3 : Nat), .int .i64 (mixD W S k 4 : Nat), .int .i64 (mixD W S k 5 : Nat), .int .i64 (mixD W S k 6 : Nat), .int .i64 (mixD W S k 7 : Nat), .int .i64 (mixD W S k 8 : Nat)]
theorem mixN_get (W S k : Nat) (j : Nat) (hj : j < 9) : (mixN W S k)[j]? = some (.int .i64 (mixD W S k j : Nat)) := by
  match j, hj with
  | 0, _ => rfl
  | 1, _ => rfl
  | 2, _ => rfl
  | 3, _ => rfl
  | 4, _ => rfl
  | 5, _ => rfl
  | 6, _ => rfl
  | 7, _ => rfl
  | 8, _ => rfl
theorem mixN_nine (W S : Nat) : mixN W S 9 = digN S := rfl
theorem mixN_here (W S k : Nat) (hk : k < 9) : (mixN W S k)[k]? = some (.int .i64 (dig W k : Nat)) := by
  rw [mixN_get W S k k hk]; unfold mixD; rw [if_neg (Nat.lt_irrefl k)]
theorem mixN_set (W S k : Nat) (hk : k < 9) : (mixN W S k).set k (.int .i64 (dig S k : Nat)) = mixN W S (k + 1) := by
  apply List.ext_getElem?
  intro i
  by_cases hi : i < 9
  · rw [mixN_get W S (k + 1) i hi, List.getElem?_set]
    by_cases e : k = i
    · subst e
      rw [if_pos rfl, if_pos (show k < (mixN W S k).length from hk)]
      unfold mixD; rw [if_pos (Nat.lt_succ_self k)]
    · rw [if_neg e, mixN_get W S k i hi]
      unfold mixD
      by_cases g : i < k
      · rw [if_pos g, if_pos (by omega)]
      · rw [if_neg g, if_neg (by omega)]
  · rw [List.getElem?_eq_none (by rw [List.length_set]; show 9 ≤ i; omega), List.getElem?_eq_none (by show 9 ≤ i; omega)]

set_option maxRecDepth 100000 in
set_option maxHeartbeats 2000000 in
theorem plus_any (W S : Nat) (n : Int) (w : World) (hn1 : -65536 ≤ n) (hn2 : n ≤ 65536) (hS : n + (W : Int) = (S : Int)) :
    Calls Tryz.prog 130 #[wA W, .int .i64 n] w (GivesV (wA S) w) := by
  obtain ⟨h1, h2⟩ := two_new w (digN W) [.int .i64 0, .int .i64 0, .int .i64 0, .int .i64 0, .int .i64 0, .int .i64 0, .int .i64 0, .int .i64 0, .int .i64 0] 90 90
  have hG := below_two w (.cells (digN W).toArray 90) (.cells #[.int .i64 0, .int .i64 0, .int .i64 0, .int .i64 0, .int .i64 0, .int .i64 0, .int .i64 0, .int .i64 0, .int .i64 0] 90)
  go_enter Tryz.func130, Tryz.ntmps130
  go_wp2_with fail
  go_loopw [1, 6] (fun c i wr => ∃ (k : Nat) (z : Int), k ≤ 9 ∧ i = .int .i64 k ∧ c = .int .i64 z ∧ -65537 ≤ z ∧ z ≤ 65537 ∧ Hid (z + ((W / 2 ^ (16 * k) : Nat) : Int) = ((S / 2 ^ (16 * k) : Nat) : Int)) ∧ Blk wr w.heap.size (mixN W S k) 90 ∧ Blk wr (w.heap.size + 1) [.int .i64 0, .int .i64 0, .int .i64 0, .int .i64 0, .int .i64 0, .int .i64 0, .int .i64 0, .int .i64 0, .int .i64 0] 90 ∧ Below w.heap.size w wr) (fun _ i _ => 9 - (intOf i).toNat)
  case atStart => exact ⟨0, n, by omega, rfl, rfl, by omega, by omega, Lib.hid (by simpa using hS), h1, h2, hG⟩
  case round =>
    clear h1 h2 hG
    obtain ⟨k, z, hk, rfl, rfl, hz1, hz2, hc, hx, hy, hb⟩ := hrel
    by_cases hlt : k < 9
    · obtain ⟨d1, d2⟩ := plus_digit hc.out
      have hd := dig_lt W k
      have q := hx.cell (mixN_here W S k hlt)
      have fq := hx.free k
      have d3 := mixN_set W S k hlt
      have hx0 : 0 ≤ ((dig W k : Nat) : Int) ∧ ((dig W k : Nat) : Int) < 65536 := by omega
      generalize ((dig W k : Nat) : Int) = X at *
      have hA := (and16z (z + X) (by omega) (by omega)).trans d1
      have hW : IntKind.i64.wrap (z + X) = z + X := IntWalk.i64_in _ (by omega)
      have hx9 := hx.set k (.int .i64 (dig S k : Nat))
      rw [d3] at hx9
      have hy9 := hy.other (a := ⟨w.heap.size, k, none⟩) (by show w.heap.size + 1 ≠ w.heap.size; omega) (.int .i64 (dig S k : Nat))
      have hb9 := hb.setCell (p := ⟨w.heap.size, k, none⟩) (Nat.le_refl _) (.int .i64 (dig S k : Nat))
      have hlt' : (k : Int) < 9 := by omega
      have d2 := Lib.hid d2
      have hz3 := Lib.hid (show -65537 ≤ (z + X) / 65536 ∧ (z + X) / 65536 ≤ 65537 by omega)
      clear hd hx hy hb d1 d3 hc
      generalize ((dig S k : Nat) : Int) = Y at *
      go_wp2_with fail
      go_roundw
      case rel => exact ⟨k + 1, (z + X) / 65536, by omega, by go_num, rfl, hz3.out.1, hz3.out.2, d2, hx9, hy9, hb9⟩
      case measure => simp [intOf]; omega
    · have hk9 : k = 9 := by omega
      subst hk9
      rw [mixN_nine] at hx
      have l1 := hx.ld rowW rfl
      have S1 := stT_row rowW hy rfl (digN_len S) (digN_one S)
      go_wp2_with fail
      refine bodyPost_ret (v := wA S) (results_row rowW rfl _ _ _ _ _ rfl (hy.row (digN S)) rfl) rfl ⟨rfl, below_row hb (by omega) _⟩
/-- A wide number as an address. -/
theorem addr_w (W : Nat) (w : World) (hW : W < 2 ^ 129) : Calls Tryz.prog 79 #[wA W] w (GivesV (adA (adOf W)) w) := by
  rw [wA_adOf hW]
  exact waddr_any (W % 2 ^ 128) (decide (2 ^ 128 ≤ W)) w (Nat.mod_lt _ (by decide))
end Go.Proofs.YthjhokicojgpbaaGreatDoor
