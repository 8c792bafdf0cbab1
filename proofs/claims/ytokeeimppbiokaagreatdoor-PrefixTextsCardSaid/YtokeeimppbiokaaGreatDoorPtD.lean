/- PrefixTexts: PrefixText and ParsePrefix are as specified for all prefixes and strings. -/
import Derived.Test.YtokeeimppbiokaaGreatDoorPtB
import Derived.Test.YtokeeimppbiokaaGreatDoorLaneD
import Derived.Test.YtokeeimppbiokaaGreatDoorAddressed
namespace Go.Proofs.YtokeeimppbiokaaGreatDoor
open Go.RowKit
set_option linter.unusedVariables false
set_option linter.unusedSimpArgs false

set_option maxHeartbeats 2000000 in
set_option maxRecDepth 100000 in
theorem changed2_any (l : List UInt8) (w : World) (b R : Nat) (hs : Str w b (R + 3)) (hl : l.length ≤ 100000) :
    Calls Tryz.prog 23 #[.pointer (some ⟨b, 0, none⟩), .string ⟨l.toArray⟩, .string ⟨#[48, 49, 50, 51, 52, 53, 54, 55, 56, 57, 58, 46, 47]⟩] w (StPost (l.length + 16) b R w) := by
  by_cases h0 : l = []
  · subst h0
    go_enter Tryz.func23, Tryz.ntmps23
    go_wp2_with fail
    go_ret
    exact ⟨[48, 49, 50, 51, 52, 53, 54, 55, 56, 57, 58, 46, 47], by decide, rfl, hs.le (by omega), gb_refl _ _⟩
  · have hne : l.isEmpty = false := by simpa using h0
    have hpos : 0 < l.length := List.length_pos_iff.2 h0
    obtain ⟨S, hS⟩ : ∃ S : ByteArray, S = ⟨l.toArray⟩ := ⟨_, rfl⟩
    have hsz : S.size = l.length := by rw [hS]; rfl
    go_enter Tryz.func23, Tryz.ntmps23
    go_wp2_with fail
    refine (next_any _ _ _ (R + 2) (by omega) (by omega) hs).mono ?_
    rintro e w1 ⟨r, ⟨hr1, hr2⟩, rfl, hs1, hg1⟩
    go_wp2_with fail
    refine (next_any _ _ _ (R + 1) (by omega) (by omega) hs1).mono ?_
    rintro e w2 ⟨q, ⟨hq1, hq2⟩, rfl, hs2, hg2⟩
    replace hg2 := gb_trans hg1 hg2
    obtain ⟨c, hc1, hc2, hcx⟩ : ∃ c : Int, 0 ≤ c ∧ c < 256 ∧ ∀ W, (Instr.index 9 (.string ⟨#[48, 49, 50, 51, 52, 53, 54, 55, 56, 57, 58, 46, 47]⟩) (.int .i64 q)).run Tryz.prog W = .ok (.int .u8 c) W :=
      ⟨(((⟨#[48, 49, 50, 51, 52, 53, 54, 55, 56, 57, 58, 46, 47]⟩ : ByteArray)[q.toNat]'(by show q.toNat < 13; omega)).toNat : Int), by omega, by have := UInt8.toNat_lt ((⟨#[48, 49, 50, 51, 52, 53, 54, 55, 56, 57, 58, 46, 47]⟩ : ByteArray)[q.toNat]'(by show q.toNat < 13; omega)); omega, fun W => by
        rw [run_index_string W _ _ _ _ Tryz.underlying9, dif_pos ⟨hq1, hq2⟩]⟩
    have hcv : ∀ W, (convert 5 21 (.int .u8 c)).run Tryz.prog W = .ok (.int .i32 c) W := fun W => by
      have : IntKind.i32.wrap c = c := by rw [IntKind.wrap_i32]; omega
      go_simp
    have hcs : ∀ W, (convert 21 9 (.int .i32 c)).run Tryz.prog W = .ok (.string (Utf8.encode c)) W := fun W => run_convert_int_string W _ _ _ _ (by kernel_rfl) Tryz.underlying9
    have hen := enc_size c
    generalize Utf8.encode c = E at hcs hen
    go_wp2_with fail
    refine (next_any _ _ _ R (by omega) (by omega) hs2).mono ?_
    rintro e w3 ⟨k, ⟨hk1, hk2⟩, rfl, hs3, hg3⟩
    replace hg3 := gb_trans hg2 hg3
    clear hs hs1 hs2 hg1 hg2 hcx
    rcases (show k = 0 ∨ k = 1 ∨ k = 2 by omega) with rfl | rfl | rfl
    all_goals
      go_wp2_with fail
      go_quiet (fail)
      go_wp2_with fail
      go_ret
      refine ⟨_, ?_, congrArg Ending.returned (congrArg Value.string (ba_back _).symm), hs3.drewN, gb_drewN hg3⟩
      simp
      omega


theorem pfxText_len (s : Bool) (hi lo n : Int) (h0 : 0 ≤ n) (h1 : n ≤ 128) : (pfxText s hi lo n).length ≤ 204 := by
  have l1 := adrText_len s hi lo
  have l2 := itoa_len n h0 (by omega)
  unfold pfxText
  rw [List.length_append, List.length_cons]
  omega

theorem rightP_adF {s : Bool} {hi lo n : Int} (h : RightP s hi lo n) : adF s hi lo = 0 := by
  obtain ⟨a, l, ⟨⟨h1, h2⟩, ⟨h3, h4⟩, h5⟩, _, _, rfl, rfl⟩ := h
  unfold adF
  rw [if_neg]
  rintro ⟨rfl, hx⟩
  obtain ⟨rfl, h6⟩ := h5 rfl
  have hn : num 0 l < 2 ^ 32 := by
    have e : num 0 l = l.toNat := by unfold num; simp
    rw [e]; omega
  have hC : clr (num 0 l) (lenZ false - n).toNat < 2 ^ 32 := clr_lt hn
  generalize clr (num 0 l) (lenZ false - n).toNat = C at *
  have e1 : C / 2 ^ 64 = 0 := Nat.div_eq_of_lt (by omega)
  have e2 : C % 2 ^ 64 = C := Nat.mod_eq_of_lt (by omega)
  rw [e1, e2] at hx
  rcases hx with hx | hx
  · exact hx rfl
  · omega

set_option maxHeartbeats 2000000 in
set_option maxRecDepth 100000 in
theorem prefixString_any (w : World) (b R : Nat) (hs : Str w b (R + 12)) (hT : Tabs w) (hb : 8 ≤ b) :
    Calls Tryz.prog 12 #[.pointer (some ⟨b, 0, none⟩)] w (StPost 400 b R w) := by
  go_enter Tryz.func12, Tryz.ntmps12
  go_wp2_with fail
  refine (rightPrefix_any _ _ (R + 7) hs).mono ?_
  rintro e w1 ⟨s, hi, lo, n, hP, rfl, hs1, hg1⟩
  have hT1 := hT.grown hg1 hb
  obtain ⟨⟨x0, x1⟩, y0, y1⟩ := hP.u64
  have hF := rightP_adF hP
  have hn : 0 ≤ n ∧ n ≤ 128 := by
    obtain ⟨_, _, _, a, c, _⟩ := hP
    have : lenZ s ≤ 128 := by cases s <;> decide
    omega
  have HX := Lib.hid (prefixLine_any s hi lo n w1 hT1 x0 x1 y0 y1 hF hn.1 hn.2)
  have hlen := pfxText_len s hi lo n hn.1 hn.2
  clear hs hT hP hF hn x0 x1 y0 y1 hT1
  generalize pfxText s hi lo n = l at HX hlen
  go_wp2_with fail
  refine HX.out.mono ?_
  rintro e w3 ⟨rfl, hb3⟩
  replace hs1 := hs1.below hb3
  replace hg1 := gb_below hg1 hb3
  clear HX hb3
  go_wp2_with fail
  refine (pick_lit w3 b (R + 6) [0, 0, 1, 2] _ _ hs1 (by simp) (by simp) (fun r => 0 ≤ r ∧ r ≤ 2) (by simp)).mono ?_
  rintro e w4 ⟨n, ⟨n1, n2⟩, rfl, hs4, hg4⟩
  replace hg4 := gb_trans (gb_alloc hg1 _) hg4
  clear hs1 hg1
  rcases (show n = 0 ∨ n = 1 ∨ n = 2 by omega) with rfl | rfl | rfl
  · go_wp2_with fail
    refine wp_loop_rounds 1 ?_
    rw [rounds_succ]
    go_wp2_with fail
    go_ret
    exact ⟨l, by omega, rfl, hs4.le (by omega), hg4⟩
  · go_wp2_with fail
    refine wp_loop_rounds 2 ?_
    rw [rounds_succ]
    go_wp2_with fail
    refine (changed2_any l _ b R (hs4.le (by omega)) (by omega)).mono ?_
    rintro e w5 ⟨l', hl', rfl, hs5, hg5⟩
    replace hg5 := gb_trans hg4 hg5
    clear hs4 hg4
    go_wp2_with fail
    rw [rounds_succ]
    go_wp2_with fail
    go_ret
    exact ⟨l', by omega, rfl, hs5, hg5⟩
  · go_wp2_with fail
    refine wp_loop_rounds 3 ?_
    rw [rounds_succ]
    go_wp2_with fail
    refine (changed2_any l _ b (R + 3) hs4 (by omega)).mono ?_
    rintro e w5 ⟨l', hl', rfl, hs5, hg5⟩
    replace hg5 := gb_trans hg4 hg5
    clear hs4 hg4
    go_wp2_with fail
    rw [rounds_succ]
    go_wp2_with fail
    refine (changed2_any l' _ b R hs5 (by omega)).mono ?_
    rintro e w6 ⟨l'', hl'', rfl, hs6, hg6⟩
    replace hg6 := gb_trans hg5 hg6
    clear hs5 hg5
    go_wp2_with fail
    rw [rounds_succ]
    go_wp2_with fail
    go_ret
    exact ⟨l'', by omega, rfl, hs6, hg6⟩

set_option maxHeartbeats 1000000 in
theorem pf_same (s : Bool) (a b n : Int) (w : World) : (Op.equalIn 10000 36 (.agg #[.bool s, .int .u64 a, .int .u64 b, .int .i64 n]) (.agg #[.bool s, .int .u64 a, .int .u64 b, .int .i64 n])).run Tryz.prog w = .ok true w := by
  rw [show (10000 : Nat) = 9999 + 1 from rfl, run_equalIn_agg w 9999 36 _ _ (by kernel_rfl) (by kernel_rfl)]
  simp only [Program.fieldsOf, Tryz.underlying36]
  go_simp
/-- A test of two values, as one step. -/
def eqPs (x y : Operand) (a b : Value) : Sem Next := do
  let v ← (do eqGuard .eql 36 x y a b; binOp .eql 36 a b)
  pure (.value v)
@[go_sem ↓ high] theorem execOp_eqPs' (ρ : Operand → Value) (dst : Option Tmp) (x y : Operand) (r ty : TypeId) (pos : String) (after : Array Edge) (guard : Option (Nat × Bool)) :
    execOp ρ ⟨dst, .binOp .eql 36 x y r, ty, pos, after, guard⟩ = eqPs x y (ρ x) (ρ y) := rfl
@[go_sem high] theorem execOp_eqPs (ρ : Operand → Value) (dst : Option Tmp) (x y : Operand) (r ty : TypeId) (pos : String) (after : Array Edge) (guard : Option (Nat × Bool)) :
    execOp ρ ⟨dst, .binOp .eql 36 x y r, ty, pos, after, guard⟩ = eqPs x y (ρ x) (ρ y) := rfl
@[go_sem] theorem run_eqPs (x y : Operand) (s : Bool) (a b n : Int) (w : World) : (eqPs x y (.agg #[.bool s, .int .u64 a, .int .u64 b, .int .i64 n]) (.agg #[.bool s, .int .u64 a, .int .u64 b, .int .i64 n])).run Tryz.prog w = .ok (.value (.bool true)) w := by
  unfold eqPs
  simp only [Sem.run_bind, run_eql_struct, pf_same, run_eqGuard_agg _ _ _ _ _ _ _ Tryz.eqGuardType36, Result.andThen_ok, Sem.run_pure]

theorem pfE_shape (o : Option (Bool × Nat × Nat × Nat)) : ∃ (s : Bool) (h l n e : Int), pfE o = .tuple #[.agg #[.bool s, .int .u64 h, .int .u64 l, .int .i64 n], .int .i64 e] := by
  cases o with
  | none => exact ⟨_, _, _, _, _, rfl⟩
  | some x => obtain ⟨s, h, l, n⟩ := x; exact ⟨_, _, _, _, _, rfl⟩

set_option maxHeartbeats 8000000 in
set_option maxRecDepth 100000 in
theorem prefixTexts_walk (a : Option Addr) (len cap : Nat) (w : World) (hC : Cons w) (hs : Str (w.alloc (.cells #[.slice a len cap, .int .i64 0] 25)) w.heap.size 1000) :
    Calls Tryz.prog 4 #[.slice a len cap] w fun e w' => e = .returned (.bool true) ∧ Below w.heap.size w w' := by
  have hB0 : Below w.heap.size w (w.alloc (.cells #[.slice a len cap, .int .i64 0] 25)) := (Below.refl _ _).alloc (Nat.le_refl _) _
  have hT0 := hC.tabs.below hB0
  have hng := hC.tabs.2.2
  go_enter Tryz.func4, Tryz.ntmps4
  go_wp2_with fail
  refine (prefix_any _ _ 980 (hs.le (by omega))).mono ?_
  rintro e w1 ⟨s, hi, lo, n, ⟨⟨x0, x1⟩, ⟨y0, y1⟩, _⟩, rfl, hs1, hg1⟩
  have hT1 := hT0.grown hg1 hng
  have hb : Below w.heap.size w w1 := hB0.trans (gb_toBelow hg1 (Nat.le_refl _) (by simp))
  clear hs hB0 hT0 hg1
  go_wp2_with fail
  refine (prefixString_any _ _ 960 (hs1.le (by omega)) hT1 hng).mono ?_
  rintro e w2 ⟨l, hl, rfl, hs2, hg2⟩
  replace hb : Below w.heap.size w w2 := hb.trans (gb_toBelow hg2 (Nat.le_refl _) (by have := hs1.lt; omega))
  clear hs1 hs2 hg2 hT1 hng
  have hX := Blk.new w2 [.bool s, .int .u64 hi, .int .u64 lo, .int .i64 n] 36
  replace hb := hb.alloc hb.size (.cells #[.bool s, .int .u64 hi, .int .u64 lo, .int .i64 n] 36)
  have HP := Lib.hid (fun w' (h : Below w.heap.size w w') => parsePrefix_any l w' (hC.below h) (by omega))
  have HPR := Lib.hid (fun w' (h : Below w.heap.size w w') => prefixParseR_any l w' (hC.below h) (by omega))
  have HA := Lib.hid (fun w' => addressed_any w')
  obtain ⟨ps, ph, pl, pn, pe, hp⟩ := pfE_shape (prefixL l)
  rw [hp] at HP HPR
  have HV := Lib.hid (fun w' => prefixFault_any s hi lo n w' x0 x1 y0 y1)
  obtain ⟨c0, c1, c2, c3, _⟩ := hX.four
  by_cases hc : pfF s hi lo n = 0
  · have HTX := Lib.hid (fun w' (h : Below w.heap.size w w') => prefixText_ok s hi lo n w' (hC.below h).tabs x0 x1 y0 y1 hc)
    obtain ⟨hF, z0, z1⟩ := pfF_zero hc
    have HLN := Lib.hid (fun w' (h : Below w.heap.size w w') => prefixLine_any s hi lo n w' (hC.below h).tabs x0 x1 y0 y1 hF z0 z1)
    rw [hc] at HV
    clear hc hp hl hC hF
    generalize pfxText s hi lo n = T at HTX HLN
    go_wp2_with fail
    refine (HTX.out _ hb).mono ?_
    rintro e w3 ⟨rfl, hb2⟩
    replace hX := hX.below hb2
    replace hb := hb.trans (hb2.mono hb.size)
    clear hb2 HTX c0 c1 c2 c3
    obtain ⟨c0, c1, c2, c3, _⟩ := hX.four
    go_wp2_with fail
    refine (HV.out _).mono ?_
    rintro e w4 ⟨rfl, hb2⟩
    replace hX := hX.below hb2
    replace hb := hb.trans (hb2.mono hb.size)
    clear hb2 HV c0 c1 c2 c3
    obtain ⟨c0, c1, c2, c3, _⟩ := hX.four
    go_wp2_with fail
    refine (HLN.out _ hb).mono ?_
    rintro e w4' ⟨rfl, hb2⟩
    replace hb := hb.trans (hb2.mono hb.size)
    clear hb2 HLN c0 c1 c2 c3 hX
    go_wp2_with fail
    refine (HP.out _ hb).mono ?_
    rintro e w5 ⟨rfl, hb2⟩
    replace hb := hb.trans (hb2.mono hb.size)
    have hX1 := Blk.new w5 [.bool ps, .int .u64 ph, .int .u64 pl, .int .i64 pn] 36
    replace hb := hb.alloc hb.size (.cells #[.bool ps, .int .u64 ph, .int .u64 pl, .int .i64 pn] 36)
    clear hb2 HP
    go_wp2_with fail
    refine (HPR.out _ hb).mono ?_
    rintro e w6 ⟨rfl, hb2⟩
    replace hb := hb.trans (hb2.mono hb.size)
    replace hX1 := (hX1.below hb2).alloc (.cells #[.bool ps, .int .u64 ph, .int .u64 pl, .int .i64 pn] 36)
    have hX2 := Blk.new w6 [.bool ps, .int .u64 ph, .int .u64 pl, .int .i64 pn] 36
    replace hb := hb.alloc hb.size (.cells #[.bool ps, .int .u64 ph, .int .u64 pl, .int .i64 pn] 36)
    clear hb2 HPR
    obtain ⟨a0, a1, a2, a3, _⟩ := hX1.four
    obtain ⟨b0, b1, b2, b3, _⟩ := hX2.four
    go_wp2_with fail
    refine (HA.out _).mono ?_
    rintro e w7 ⟨rfl, hb2⟩
    replace hb := hb.trans (hb2.mono hb.size)
    go_wp2_with fail
    go_ret
    exact ⟨rfl, hb⟩
  · obtain ⟨c, hc'⟩ : ∃ c, pfF s hi lo n = c := ⟨_, rfl⟩
    have HTX := Lib.hid (fun w' => prefixText_bad s hi lo n c w' x0 x1 y0 y1 hc' (by rw [← hc']; exact hc))
    rw [hc'] at HV hc
    have q0 : (c == 0) = false := by simpa using hc
    have q1 : (c != 0) = true := by simpa using hc
    clear hc hc' hp hl hC
    go_wp2_with fail
    refine (HTX.out _).mono ?_
    rintro e w3 ⟨rfl, hb2⟩
    replace hX := hX.below hb2
    replace hb := hb.trans (hb2.mono hb.size)
    clear hb2 HTX c0 c1 c2 c3
    obtain ⟨c0, c1, c2, c3, _⟩ := hX.four
    go_wp2_with fail
    refine (HV.out _).mono ?_
    rintro e w4 ⟨rfl, hb2⟩
    replace hb := hb.trans (hb2.mono hb.size)
    clear hb2 HV c0 c1 c2 c3 hX
    go_wp2_with fail
    refine (HP.out _ hb).mono ?_
    rintro e w5 ⟨rfl, hb2⟩
    replace hb := hb.trans (hb2.mono hb.size)
    have hX1 := Blk.new w5 [.bool ps, .int .u64 ph, .int .u64 pl, .int .i64 pn] 36
    replace hb := hb.alloc hb.size (.cells #[.bool ps, .int .u64 ph, .int .u64 pl, .int .i64 pn] 36)
    clear hb2 HP
    go_wp2_with fail
    refine (HPR.out _ hb).mono ?_
    rintro e w6 ⟨rfl, hb2⟩
    replace hb := hb.trans (hb2.mono hb.size)
    replace hX1 := (hX1.below hb2).alloc (.cells #[.bool ps, .int .u64 ph, .int .u64 pl, .int .i64 pn] 36)
    have hX2 := Blk.new w6 [.bool ps, .int .u64 ph, .int .u64 pl, .int .i64 pn] 36
    replace hb := hb.alloc hb.size (.cells #[.bool ps, .int .u64 ph, .int .u64 pl, .int .i64 pn] 36)
    clear hb2 HPR
    obtain ⟨a0, a1, a2, a3, _⟩ := hX1.four
    obtain ⟨b0, b1, b2, b3, _⟩ := hX2.four
    go_wp2_with fail
    refine (HA.out _).mono ?_
    rintro e w7 ⟨rfl, hb2⟩
    replace hb := hb.trans (hb2.mono hb.size)
    go_wp2_with fail
    go_ret
    exact ⟨rfl, hb⟩
end Go.Proofs.YtokeeimppbiokaaGreatDoor
