/- notation.Number of at most three digits. -/
import Derived.Test.YtkldcmmlllkhkaaGreatDoorKqStC
import Derived.Test.YtkldcmmlllkhkaaGreatDoorKqPsF
import Derived.Lib.Strings
set_option maxRecDepth 100000
namespace Go.Proofs.YtkldcmmlllkhkaaGreatDoor
open Go.RowKit

theorem isDig_true {c : UInt8} (h : isDig c = true) : 48 ≤ (c.toNat : Int) ∧ (c.toNat : Int) ≤ 57 := by
  unfold isDig at h
  rw [Bool.and_eq_true] at h
  exact ⟨of_decide_eq_true h.1, of_decide_eq_true h.2⟩

set_option maxHeartbeats 400000 in
theorem isDigit_any (c : UInt8) (w : World) : Calls Tryz.prog 89 #[.int .u8 (c.toNat : Int)] w fun e w' => e = .returned (.bool (isDig c)) ∧ w = w' := by
  by_cases h1 : 48 ≤ (c.toNat : Int)
  · by_cases h2 : (c.toNat : Int) ≤ 57
    · have HD := Lib.hid (show isDig c = true by unfold isDig; rw [decide_eq_true h1, decide_eq_true h2]; rfl)
      go_enter Tryz.func89, Tryz.ntmps89
      go_wp2_with fail
      go_ret
      exact ⟨by rw [HD.out]; rfl, rfl⟩
    · have HD := Lib.hid (show isDig c = false by unfold isDig; rw [decide_eq_true h1, decide_eq_false h2]; rfl)
      go_enter Tryz.func89, Tryz.ntmps89
      go_wp2_with fail
      go_ret
      exact ⟨by rw [HD.out]; rfl, rfl⟩
  · have HD := Lib.hid (show isDig c = false by unfold isDig; rw [decide_eq_false h1]; rfl)
    go_enter Tryz.func89, Tryz.ntmps89
    go_wp2_with fail
    go_ret
    exact ⟨by rw [HD.out]; rfl, rfl⟩

def numV : Option Nat → Value
  | some n => .tuple #[.int .i64 (n : Int), .bool true]
  | none => .tuple #[.int .i64 0, .bool false]

theorem numL_none {l : List UInt8} (h : l = [] ∨ 3 < l.length ∨ (l.head? = some 48 ∧ 1 < l.length)) : numL l = none := if_pos h
theorem numL_else {l : List UInt8} (h : ¬ (l = [] ∨ 3 < l.length ∨ (l.head? = some 48 ∧ 1 < l.length))) : numL l = if l.all isDig then some (decVal l) else none := if_neg h
theorem u8_48 {c : UInt8} : (c.toNat : Int) = 48 ↔ c = 48 := by
  constructor
  · intro h
    have : c.toNat = 48 := by omega
    exact UInt8.toNat_inj.1 this
  · rintro rfl; rfl

theorem ba_get (xs : Array UInt8) (i : Nat) (h : i < (ByteArray.mk xs).size) : (ByteArray.mk xs)[i]'h = xs[i]'h := rfl
theorem ret_eq {a b : Value} (h : a = b) : Ending.returned a = Ending.returned b := by rw [h]
theorem num_ret {l : List UInt8} {n : Nat} {x : Int} (h : numL l = some n) (hx : x = (n : Int)) : Ending.returned (.tuple #[.int .i64 x, .bool true]) = Ending.returned (numV (numL l)) := by rw [h, hx]; rfl
theorem non_ret {l : List UInt8} (h : numL l = none) : Ending.returned (.tuple #[.int .i64 0, .bool false]) = Ending.returned (numV (numL l)) := by rw [h]; rfl

set_option maxHeartbeats 2000000 in
theorem number_1 (a : UInt8) (w : World) :
    Calls Tryz.prog 58 #[.string ⟨([a] : List UInt8).toArray⟩, .int .i64 3] w fun e w' => e = .returned (numV (numL [a])) ∧ w = w' := by
  have D0 := fun w' => Lib.hid (isDigit_any a w')
  by_cases h48 : a = 48
  · subst h48
    have HN : Hid (numL [48] = some 0) := Lib.hid (by decide)
    have D1 : ∀ w', Hid (Calls Tryz.prog 89 #[.int .u8 48] w' fun e w'' => e = .returned (.bool true) ∧ w' = w'') := fun w' => Lib.hid (isDigit_any 48 w')
    clear D0
    go_enter Tryz.func58, Tryz.ntmps58
    go_wp2_with fail
    refine wp_loop_rounds 2 ?_
    rw [rounds_succ]
    go_wp2_with fail
    refine (D1 _).out.mono ?_
    rintro e w0 ⟨rfl, rfl⟩
    go_wp2_with fail
    rw [rounds_succ]
    go_wp2_with fail
    go_ret2
    exact ⟨num_ret HN.out rfl, rfl⟩
  have HE := Lib.hid (numL_else (l := [a]) (by simp))
  have b0 : ((a.toNat : Int) == 48) = false := by
    rw [beq_eq_false_iff_ne]; exact fun h => h48 (u8_48.1 h)
  have i0 : ¬ (a.toNat : Int) = 48 := fun h => h48 (u8_48.1 h)
  clear h48
  cases ha : isDig a
  · have HN : Hid (numL [a] = none) := Lib.hid (by rw [HE.out]; simp [ha])
    rw [ha] at D0
    clear ha
    go_enter Tryz.func58, Tryz.ntmps58
    go_wp2_with fail
    refine wp_loop_rounds 1 ?_
    rw [rounds_succ]
    go_wp2_with fail
    refine (D0 _).out.mono ?_
    rintro e w0 ⟨rfl, rfl⟩
    go_wp2_with fail
    go_ret2
    exact ⟨non_ret HN.out, rfl⟩
  have HN : Hid (numL [a] = some (decVal [a])) := Lib.hid (by rw [HE.out]; simp [ha])
  obtain ⟨la, ma⟩ := isDig_true ha
  rw [ha] at D0
  clear ha
  go_enter Tryz.func58, Tryz.ntmps58
  go_wp2_with fail
  refine wp_loop_rounds 2 ?_
  rw [rounds_succ]
  go_wp2_with fail
  refine (D0 _).out.mono ?_
  rintro e w0 ⟨rfl, rfl⟩
  go_wp2_with fail
  rw [rounds_succ]
  go_wp2_with fail
  go_ret2
  exact ⟨num_ret HN.out (by simp [decVal, decStep, ba_get]; omega), rfl⟩

set_option maxHeartbeats 2000000 in
theorem number_2 (a b : UInt8) (w : World) :
    Calls Tryz.prog 58 #[.string ⟨([a, b] : List UInt8).toArray⟩, .int .i64 3] w fun e w' => e = .returned (numV (numL [a, b])) ∧ w = w' := by
  have D0 := fun w' => Lib.hid (isDigit_any a w')
  have D1 := fun w' => Lib.hid (isDigit_any b w')
  by_cases h48 : a = 48
  · have HN := Lib.hid (numL_none (l := [a, b]) (.inr (.inr ⟨by rw [h48]; rfl, by simp⟩)))
    have b0 : ((a.toNat : Int) == 48) = true := by rw [h48]; rfl
    have i0 : (a.toNat : Int) = 48 := by rw [h48]; rfl
    clear h48
    go_enter Tryz.func58, Tryz.ntmps58
    go_wp2_with fail
    go_ret2
    exact ⟨non_ret HN.out, rfl⟩
  have HE := Lib.hid (numL_else (l := [a, b]) (by simpa using h48))
  have b0 : ((a.toNat : Int) == 48) = false := by
    rw [beq_eq_false_iff_ne]; exact fun h => h48 (u8_48.1 h)
  have i0 : ¬ (a.toNat : Int) = 48 := fun h => h48 (u8_48.1 h)
  clear h48
  cases ha : isDig a
  · have HN : Hid (numL [a, b] = none) := Lib.hid (by rw [HE.out]; simp [ha])
    rw [ha] at D0
    clear ha
    go_enter Tryz.func58, Tryz.ntmps58
    go_wp2_with fail
    refine wp_loop_rounds 1 ?_
    rw [rounds_succ]
    go_wp2_with fail
    refine (D0 _).out.mono ?_
    rintro e w0 ⟨rfl, rfl⟩
    go_wp2_with fail
    go_ret2
    exact ⟨non_ret HN.out, rfl⟩
  cases hb : isDig b
  · have HN : Hid (numL [a, b] = none) := Lib.hid (by rw [HE.out]; simp [hb])
    obtain ⟨la, ma⟩ := isDig_true ha
    rw [ha] at D0
    rw [hb] at D1
    clear ha hb
    go_enter Tryz.func58, Tryz.ntmps58
    go_wp2_with fail
    refine wp_loop_rounds 2 ?_
    rw [rounds_succ]
    go_wp2_with fail
    refine (D0 _).out.mono ?_
    rintro e w0 ⟨rfl, rfl⟩
    go_wp2_with fail
    rw [rounds_succ]
    go_wp2_with fail
    refine (D1 _).out.mono ?_
    rintro e w1 ⟨rfl, rfl⟩
    go_wp2_with fail
    go_ret2
    exact ⟨non_ret HN.out, rfl⟩
  have HN : Hid (numL [a, b] = some (decVal [a, b])) := Lib.hid (by rw [HE.out]; simp [ha, hb])
  obtain ⟨la, ma⟩ := isDig_true ha
  rw [ha] at D0
  obtain ⟨lb, mb⟩ := isDig_true hb
  rw [hb] at D1
  clear ha hb
  go_enter Tryz.func58, Tryz.ntmps58
  go_wp2_with fail
  refine wp_loop_rounds 3 ?_
  rw [rounds_succ]
  go_wp2_with fail
  refine (D0 _).out.mono ?_
  rintro e w0 ⟨rfl, rfl⟩
  go_wp2_with fail
  rw [rounds_succ]
  go_wp2_with fail
  refine (D1 _).out.mono ?_
  rintro e w1 ⟨rfl, rfl⟩
  go_wp2_with fail
  rw [rounds_succ]
  go_wp2_with fail
  go_ret2
  exact ⟨num_ret HN.out (by simp [decVal, decStep, ba_get]; omega), rfl⟩

set_option maxHeartbeats 2000000 in
theorem number_3 (a b c : UInt8) (w : World) :
    Calls Tryz.prog 58 #[.string ⟨([a, b, c] : List UInt8).toArray⟩, .int .i64 3] w fun e w' => e = .returned (numV (numL [a, b, c])) ∧ w = w' := by
  have D0 := fun w' => Lib.hid (isDigit_any a w')
  have D1 := fun w' => Lib.hid (isDigit_any b w')
  have D2 := fun w' => Lib.hid (isDigit_any c w')
  by_cases h48 : a = 48
  · have HN := Lib.hid (numL_none (l := [a, b, c]) (.inr (.inr ⟨by rw [h48]; rfl, by simp⟩)))
    have b0 : ((a.toNat : Int) == 48) = true := by rw [h48]; rfl
    have i0 : (a.toNat : Int) = 48 := by rw [h48]; rfl
    clear h48
    go_enter Tryz.func58, Tryz.ntmps58
    go_wp2_with fail
    go_ret2
    exact ⟨non_ret HN.out, rfl⟩
  have HE := Lib.hid (numL_else (l := [a, b, c]) (by simpa using h48))
  have b0 : ((a.toNat : Int) == 48) = false := by
    rw [beq_eq_false_iff_ne]; exact fun h => h48 (u8_48.1 h)
  have i0 : ¬ (a.toNat : Int) = 48 := fun h => h48 (u8_48.1 h)
  clear h48
  cases ha : isDig a
  · have HN : Hid (numL [a, b, c] = none) := Lib.hid (by rw [HE.out]; simp [ha])
    rw [ha] at D0
    clear ha
    go_enter Tryz.func58, Tryz.ntmps58
    go_wp2_with fail
    refine wp_loop_rounds 1 ?_
    rw [rounds_succ]
    go_wp2_with fail
    refine (D0 _).out.mono ?_
    rintro e w0 ⟨rfl, rfl⟩
    go_wp2_with fail
    go_ret2
    exact ⟨non_ret HN.out, rfl⟩
  cases hb : isDig b
  · have HN : Hid (numL [a, b, c] = none) := Lib.hid (by rw [HE.out]; simp [hb])
    obtain ⟨la, ma⟩ := isDig_true ha
    rw [ha] at D0
    rw [hb] at D1
    clear ha hb
    go_enter Tryz.func58, Tryz.ntmps58
    go_wp2_with fail
    refine wp_loop_rounds 2 ?_
    rw [rounds_succ]
    go_wp2_with fail
    refine (D0 _).out.mono ?_
    rintro e w0 ⟨rfl, rfl⟩
    go_wp2_with fail
    rw [rounds_succ]
    go_wp2_with fail
    refine (D1 _).out.mono ?_
    rintro e w1 ⟨rfl, rfl⟩
    go_wp2_with fail
    go_ret2
    exact ⟨non_ret HN.out, rfl⟩
  cases hc : isDig c
  · have HN : Hid (numL [a, b, c] = none) := Lib.hid (by rw [HE.out]; simp [hc])
    obtain ⟨la, ma⟩ := isDig_true ha
    obtain ⟨lb, mb⟩ := isDig_true hb
    rw [ha] at D0
    rw [hb] at D1
    rw [hc] at D2
    clear ha hb hc
    go_enter Tryz.func58, Tryz.ntmps58
    go_wp2_with fail
    refine wp_loop_rounds 3 ?_
    rw [rounds_succ]
    go_wp2_with fail
    refine (D0 _).out.mono ?_
    rintro e w0 ⟨rfl, rfl⟩
    go_wp2_with fail
    rw [rounds_succ]
    go_wp2_with fail
    refine (D1 _).out.mono ?_
    rintro e w1 ⟨rfl, rfl⟩
    go_wp2_with fail
    rw [rounds_succ]
    go_wp2_with fail
    refine (D2 _).out.mono ?_
    rintro e w2 ⟨rfl, rfl⟩
    go_wp2_with fail
    go_ret2
    exact ⟨non_ret HN.out, rfl⟩
  have HN : Hid (numL [a, b, c] = some (decVal [a, b, c])) := Lib.hid (by rw [HE.out]; simp [ha, hb, hc])
  obtain ⟨la, ma⟩ := isDig_true ha
  rw [ha] at D0
  obtain ⟨lb, mb⟩ := isDig_true hb
  rw [hb] at D1
  obtain ⟨lc, mc⟩ := isDig_true hc
  rw [hc] at D2
  clear ha hb hc
  go_enter Tryz.func58, Tryz.ntmps58
  go_wp2_with fail
  refine wp_loop_rounds 4 ?_
  rw [rounds_succ]
  go_wp2_with fail
  refine (D0 _).out.mono ?_
  rintro e w0 ⟨rfl, rfl⟩
  go_wp2_with fail
  rw [rounds_succ]
  go_wp2_with fail
  refine (D1 _).out.mono ?_
  rintro e w1 ⟨rfl, rfl⟩
  go_wp2_with fail
  rw [rounds_succ]
  go_wp2_with fail
  refine (D2 _).out.mono ?_
  rintro e w2 ⟨rfl, rfl⟩
  go_wp2_with fail
  rw [rounds_succ]
  go_wp2_with fail
  go_ret2
  exact ⟨num_ret HN.out (by simp [decVal, decStep, ba_get]; omega), rfl⟩

set_option maxHeartbeats 2000000 in
theorem number_any (l : List UInt8) (w : World) (hmax : l.length ≤ 100000) :
    Calls Tryz.prog 58 #[.string ⟨l.toArray⟩, .int .i64 3] w fun e w' => e = .returned (numV (numL l)) ∧ w = w' := by
  match l, hmax with
  | [], _ =>
    have HN := Lib.hid (numL_none (l := []) (.inl rfl))
    go_enter Tryz.func58, Tryz.ntmps58
    go_wp2_with fail
    go_ret2
    exact ⟨non_ret HN.out, rfl⟩
  | [a], _ => exact number_1 a w
  | [a, b], _ => exact number_2 a b w
  | [a, b, c], _ => exact number_3 a b c w
  | a :: b :: c :: d :: r, hmax =>
    have HN := Lib.hid (numL_none (l := a :: b :: c :: d :: r) (.inr (.inl (by simp))))
    obtain ⟨l, hl⟩ : ∃ l, l = a :: b :: c :: d :: r := ⟨_, rfl⟩
    have h3 : 3 < (l.length : Int) := by rw [hl]; simp; omega
    have he : l.isEmpty = false := by rw [hl]; rfl
    have hm : l.length ≤ 100000 := by rw [hl]; exact hmax
    rw [← hl] at HN ⊢
    clear hl hmax
    go_enter Tryz.func58, Tryz.ntmps58
    go_wp2_with fail
    go_ret2
    exact ⟨non_ret HN.out, rfl⟩
end Go.Proofs.YtkldcmmlllkhkaaGreatDoor
