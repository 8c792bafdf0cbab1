/- A what that is checked: the star. -/
import Derived.Test.YtfbggfpihiegpaaGreatDoorKpGzA
import Derived.Test.YtfbggfpihiegpaaGreatDoorKpRvC
import Derived.Test.YtfbggfpihiegpaaGreatDoorKpShelf
import Derived.Lib.LaidTab
import Derived.Test.YtfbggfpihiegpaaGreatDoorKpWaysB
set_option linter.unusedVariables false
set_option linter.unusedSimpArgs false
set_option maxRecDepth 100000
namespace Go.Proofs.YtfbggfpihiegpaaGreatDoor
open Go.RowKit

def formsC : List Value := [.string ⟨#[42]⟩, .bool false, .bool false, .string ⟨#[117, 115, 101, 114]⟩, .bool true, .bool false, .string ⟨#[103, 114, 111, 117, 112]⟩, .bool true, .bool false, .string ⟨#[116, 97, 103]⟩, .bool true, .bool false, .string ⟨#[110, 111, 100, 101]⟩, .bool true, .bool false, .string ⟨#[104, 111, 115, 116]⟩, .bool true, .bool false, .string ⟨#[110, 101, 116]⟩, .bool false, .bool true, .string ⟨#[109, 101, 109, 98, 101, 114]⟩, .bool false, .bool false, .string ⟨#[116, 97, 103, 103, 101, 100]⟩, .bool false, .bool false, .string ⟨#[115, 101, 108, 102]⟩, .bool false, .bool false]
theorem formsC_len : formsC.length = 30 := rfl
structure Rd2 (w : World) : Prop where
  maxl : ∃ m, w.cell? ⟨1, 0, none⟩ = some (.int .i64 m)
  forms : w.rangeAt 0 0 formsC
  lt : 9 ≤ w.heap.size
theorem Rd2.below {w w' : World} (h : Rd2 w) (k : Below w.heap.size w w') : Rd2 w' := by
  have hl := h.lt
  obtain ⟨m, hm⟩ := h.maxl
  refine ⟨⟨m, ?_⟩, ?_, Nat.le_trans hl k.size⟩
  · rw [World.cell?_of_block (w := w) (k.block _ (by simp; omega))]; exact hm
  · intro i v hv
    have := h.forms i v hv
    rw [World.cell?_of_block (w := w) (k.block _ (by simp; omega))]
    exact this
section
variable (ρ : Operand → Value) (dst : Option Tmp) (x y : Operand) (ty : TypeId) (pos : String) (after : Array Edge) (guard : Option (Nat × Bool))
@[go_sem ↓ high] theorem execOp_ldFm : execOp ρ ⟨dst, .load 314 x, ty, pos, after, guard⟩ = ldT 314 (ρ x) := rfl
@[go_sem high] theorem execOp_ldFm' : execOp ρ ⟨dst, .load 314 x, ty, pos, after, guard⟩ = ldT 314 (ρ x) := rfl
end
theorem rowFm : RowT 314 30 := ⟨⟨_, Tryz.underlying314, rfl⟩, by kernel_rfl⟩
@[go_sem] theorem run_indexFm (w : World) : (Instr.index 314 (.agg formsC.toArray) (.int .i64 0)).run Tryz.prog w = .ok (.agg #[.string ⟨#[42]⟩, .bool false, .bool false]) w := by kernel_rfl

set_option maxHeartbeats 1000000 in
theorem kindStar_any (w : World) (hF : Rd2 w) : Calls Tryz.prog 223 #[.string ⟨#[42]⟩, .bool false] w (GivesV (.tuple #[.int .i64 1, .bool true]) w) := by
  have lF : (ldT 314 (.pointer (some ⟨0, 0, none⟩))).run Tryz.prog w = .ok (.value (.agg formsC.toArray)) w := ldT_run rowFm formsC_len hF.forms
  have hb : Below w.heap.size w (w.alloc (.cells #[.string ⟨#[42]⟩, .bool false, .bool false] 313)) := (Below.refl _ _).alloc (Nat.le_refl _) _
  go_enter Tryz.func223, Tryz.ntmps223
  go_wp2_with fail
  refine wp_loop_rounds 2 ?_
  rw [rounds_succ]
  go_wp2_with fail
  go_ret2
  exact ⟨rfl, hb⟩

theorem cutNo_any (l p : List UInt8) (w : World) (hC : Rd2 w) (hl : l.length ≤ 100000) :
    Calls Tryz.prog 82 #[.string ⟨l.toArray⟩, .string ⟨p.toArray⟩] w (GivesV (.tuple #[.string ⟨(Lib.cut l p).1.toArray⟩, .string ⟨(Lib.cut l p).2.1.toArray⟩, .bool (Lib.cut l p).2.2]) w) := by
  obtain ⟨m, hm⟩ := hC.maxl
  refine (Tryz.strings_Cut ⟨l.toArray⟩ ⟨p.toArray⟩ m w (by rw [Lib.size_eq]; exact Nat.lt_of_le_of_lt hl (by decide)) hm).mono ?_
  rintro e w' ⟨rfl, n, rfl⟩
  exact ⟨rfl, below_drewN (Below.refl _ _) n⟩
theorem results_cell_tmp_rowU {fn : Func} {p u : Tmp} {ty : TypeId} {k : Nat} (T : RowT ty k) (h : fn.results = #[.cell p ty, .tmp u]) (tmps : Array Value) (w : World) (g : Nat) (t : TypeId) (cs : List Value) (x : Value)
    (hp : tmps.getD p undef = .pointer (some ⟨g, 0, none⟩)) (hx : tmps.getD u undef = x) (hg : Blk w g cs t) (hl : cs.length = k) :
    (results fn tmps).run Tryz.prog w = .ok (.tuple #[.agg cs.toArray, x]) w := by
  obtain ⟨d, hu, hd⟩ := T.row
  rw [results_cell_tmp h, hp, hx]
  have := run_loadVar_mid (P := Tryz.prog) w g 0 ty cs d (hg.range 0 cs [] (by simp)) hu hd (by rw [T.size, hl])
  simp [asAddr, this, Result.andThen]
theorem below_rowU {B p : Nat} {w W : World} (h : Below B w W) (hp : B ≤ p) (cs : Array Value) : Below B w (W.setRow p cs) :=
  ⟨h.os, h.tape, h.output, Nat.le_trans h.size (by simp), fun k hk => (setRow_other W p k cs (by omega)).trans (h.block k hk)⟩
def wStar : Wh := ⟨1, [], (⟨false, 0, 0⟩, 0)⟩
def tStar : Tg := ⟨wStar, 0, 65535⟩

set_option maxHeartbeats 2000000 in
theorem readWhatStar_any (w : World) (hF : Rd2 w) : Calls Tryz.prog 147 #[.string ⟨#[42]⟩] w (GivesV (.tuple #[whA wStar, .bool true]) w) := by
  have hR := Blk.new w zWhC 222
  obtain ⟨wR, hwR⟩ : ∃ x, x = w.alloc (.cells #[.int .i64 0, .string ⟨#[]⟩, .bool false, .int .u64 0, .int .u64 0, .int .i64 0] 222) := ⟨_, rfl⟩
  have hbw : Below w.heap.size w wR := by rw [hwR]; exact (Below.refl _ _).alloc (Nat.le_refl _) _
  replace hR : Blk wR w.heap.size zWhC 222 := by rw [hwR]; exact hR
  have HC := Lib.hid (show Calls Tryz.prog 82 #[.string ⟨#[42]⟩, .string ⟨#[58]⟩] wR (GivesV (.tuple #[.string ⟨#[42]⟩, .string ⟨#[]⟩, .bool false]) wR) from cutNo_any [42] [58] wR (hF.below hbw) (by decide))
  go_enter Tryz.func147, Tryz.ntmps147
  go_upto_region 1 with fail
  rw [← hwR]
  clear hwR
  go_wp2_with fail
  refine HC.out.mono ?_
  rintro e w1 ⟨rfl, hb1⟩
  replace hbw := hbw.trans (hb1.mono hbw.size)
  replace hR := hR.below hb1
  replace hF := hF.below hbw
  have HK := Lib.hid (kindStar_any w1 hF)
  clear HC hb1
  go_wp2_with fail
  refine HK.out.mono ?_
  rintro e w2 ⟨rfl, hb2⟩
  replace hbw := hbw.trans (hb2.mono hbw.size)
  replace hR := hR.below hb2
  replace hF := hF.below hb2
  clear HK hb2
  have hF5 := hF.below ((Below.refl _ _).alloc (Nat.le_refl _) (.cells (whC wStar).toArray 222))
  have c0 : (w2.alloc (.cells (whC wStar).toArray 222)).cell? ⟨0, 0, none⟩ = some (.string ⟨#[42]⟩) := hF5.forms 0 _ rfl
  have c1 : (w2.alloc (.cells (whC wStar).toArray 222)).cell? ⟨0, 1, none⟩ = some (.bool false) := hF5.forms 1 _ rfl
  have c2 : (w2.alloc (.cells (whC wStar).toArray 222)).cell? ⟨0, 2, none⟩ = some (.bool false) := hF5.forms 2 _ rfl
  clear hF5
  have S5 : (stT 222 (.pointer (some ⟨w2.heap.size, 0, none⟩)) (.agg #[.int .i64 1, .string ⟨#[]⟩, .bool false, .int .u64 0, .int .u64 0, .int .i64 0])).run Tryz.prog (w2.alloc (.cells #[.int .i64 0, .string ⟨#[]⟩, .bool false, .int .u64 0, .int .u64 0, .int .i64 0] 222)) = .ok .skip (w2.alloc (.cells (whC wStar).toArray 222)) :=
    stT_new rowWh w2 w2.heap.size rfl zWhC (whC wStar) rfl (whC_len _) (whC_one _)
  have hX := (Blk.new w2 (whC wStar) 222).alloc (.cells #[.string ⟨#[42]⟩, .bool false, .bool false] 313)
  have lX := hX.ld rowWh (whC_len wStar)
  have hR2 := (hR.alloc (.cells (whC wStar).toArray 222)).alloc (.cells #[.string ⟨#[42]⟩, .bool false, .bool false] 313)
  have SR := stT_row rowWh hR2 rfl (whC_len wStar) (whC_one wStar)
  have hb3 := (hbw.alloc hbw.size (.cells (whC wStar).toArray 222)).alloc (by have := hbw.size; simp; omega) (.cells #[.string ⟨#[42]⟩, .bool false, .bool false] 313)
  go_wp2_with fail
  refine bodyPost_ret (v := .tuple #[whA wStar, .bool true]) (results_cell_tmp_rowU rowWh rfl _ _ w.heap.size _ _ _ rfl rfl (setRow_heap _ w.heap.size _ _ _ _ hR2) (whC_len _)) rfl ⟨rfl, ?_⟩
  exact below_rowU (p := w.heap.size) hb3 (Nat.le_refl _) _

def formL (s : List UInt8) (a b : Bool) : DataW Unit := .agg [.lit (.string s), .lit (.bool a), .lit (.bool b)]
theorem one_at {cs : List Value} {o : Nat} {v : Value} (h : (cs.drop o).take 1 = [v]) : cs[o]? = some v := by
  have := congrArg (·[0]?) h
  simpa [List.getElem?_take, List.getElem?_drop] using this
theorem form_cells {enc : TypeId × Value → Unit} {w : World} {base : Nat} {sp : Nat → Bool} {held : Bool} {fuel : Nat} {cs : List Value} {s : List UInt8} {a b : Bool} {p : List MemPlace}
    (h : DataW.trod enc Tryz.prog w base sp held fuel 313 cs = some (formL s a b, p)) : cs = [.string ⟨s.toArray⟩, .bool a, .bool b] := by
  obtain ⟨xs, n, _, hx, hl, hxl, hf⟩ := DataW.trod_struct Tryz.underlying313 h
  have hl3 : cs.length = 3 := hl.trans (by kernel_rfl)
  have hxm : xs.map (·.1) = [.lit (.string s), .lit (.bool a), .lit (.bool b)] := by
    have := congrArg Prod.fst hx
    simp only [formL, DataW.agg.injEq] at this
    exact this.symm
  have g0 := hf 0 _ rfl
  have g1 := hf 1 _ rfl
  have g2 := hf 2 _ rfl
  have hx3 : xs.length = 3 := by have := congrArg List.length hxm; simpa using this
  match xs, hx3, hxm, g0, g1, g2 with
  | [x0, x1, x2], _, hxm, g0, g1, g2 =>
    simp only [List.map_cons, List.map_nil, List.cons.injEq, and_true] at hxm
    obtain ⟨e0, e1, e2⟩ := hxm
    obtain ⟨s0, hs0, rfl, _⟩ := DataW.trod_string Tryz.underlying9 g0
    obtain ⟨b1, hb1, rfl⟩ := DataW.trod_bool Tryz.underlying4 g1
    obtain ⟨b2, hb2, rfl⟩ := DataW.trod_bool Tryz.underlying4 g2
    simp only [DataW.lit.injEq, Lit.string.injEq, Lit.bool.injEq] at e0 e1 e2
    subst e0 e1 e2
    have k0 : cs[0]? = some (.string s0) := one_at hs0
    have k1 : cs[1]? = some (.bool b1) := one_at hb1
    have k2 : cs[2]? = some (.bool b2) := one_at hb2
    match cs, hl3, k0, k1, k2 with
    | [c0, c1, c2], _, k0, k1, k2 =>
      simp only [List.getElem?_cons_zero, List.getElem?_cons_succ, Option.some.injEq] at k0 k1 k2
      subst k0 k1 k2
      rfl
def formD : List (List UInt8 × Bool × Bool) := [([42], false, false), ([117, 115, 101, 114], true, false), ([103, 114, 111, 117, 112], true, false), ([116, 97, 103], true, false), ([110, 111, 100, 101], true, false), ([104, 111, 115, 116], true, false), ([110, 101, 116], false, true), ([109, 101, 109, 98, 101, 114], false, false), ([116, 97, 103, 103, 101, 100], false, false), ([115, 101, 108, 102], false, false)]
theorem forms_cells {enc : TypeId × Value → Unit} {w : World} {base : Nat} {sp : Nat → Bool} {held : Bool} {fuel : Nat} {cs : List Value} {p : List MemPlace}
    (h : DataW.trod enc Tryz.prog w base sp held fuel 314 cs = some (.agg (formD.map fun f => formL f.1 f.2.1 f.2.2), p)) : cs = formsC := by
  have hce : Tryz.prog.cellsOf 313 = 3 := by kernel_rfl
  have hct : Tryz.prog.cellsOf 314 = 30 := by kernel_rfl
  cases fuel with
  | zero => simp [DataW.trod] at h
  | succ fuel =>
    simp only [DataW.trod, Tryz.underlying314, hce, hct] at h
    split at h
    · rename_i hl
      obtain ⟨xs, hm, hx⟩ := Option.map_eq_some_iff.1 h
      have hxs : xs.map (·.1) = formD.map fun f => formL f.1 f.2.1 f.2.2 := by
        have := congrArg Prod.fst hx
        simpa using this
      have key : ∀ i s a b, formD[i]? = some (s, a, b) → (cs.drop (i * 3)).take 3 = [.string ⟨s.toArray⟩, .bool a, .bool b] := by
        intro i s a b hi
        have hi10 : i < 10 := (List.getElem?_eq_some_iff.1 hi).1
        obtain ⟨y, hy, hf⟩ := Lib.mapM_at hm i i (by simp [hi10])
        have h2 : (xs.map (·.1))[i]? = some (formL s a b) := by rw [hxs, List.getElem?_map, hi]; rfl
        rw [List.getElem?_map, hy] at h2
        have h3 : y.1 = formL s a b := Option.some.inj h2
        obtain ⟨y1, y2⟩ := y
        simp only at h3
        subst h3
        exact form_cells hf
      apply List.ext_getElem?
      intro j
      by_cases hj : j < 30
      · obtain ⟨f, hf⟩ : ∃ f, formD[j / 3]? = some f := ⟨formD[j / 3]'(by show j / 3 < 10; omega), List.getElem?_eq_getElem _⟩
        obtain ⟨s, a, b⟩ := f
        have h1 := key (j / 3) s a b hf
        have h2 := congrArg (·[j % 3]?) h1
        simp only [List.getElem?_take, List.getElem?_drop] at h2
        rw [if_pos (by omega), show j / 3 * 3 + j % 3 = j by omega] at h2
        rw [h2]
        have hall : ∀ j, j < 30 → ∀ s a b, formD[j / 3]? = some (s, a, b) → ([.string ⟨s.toArray⟩, .bool a, .bool b] : List Value)[j % 3]? = formsC[j]? := by
          intro j hj
          have : j = 0 ∨ j = 1 ∨ j = 2 ∨ j = 3 ∨ j = 4 ∨ j = 5 ∨ j = 6 ∨ j = 7 ∨ j = 8 ∨ j = 9 ∨ j = 10 ∨ j = 11 ∨ j = 12 ∨ j = 13 ∨ j = 14 ∨ j = 15 ∨ j = 16 ∨ j = 17 ∨ j = 18 ∨ j = 19 ∨ j = 20 ∨ j = 21 ∨ j = 22 ∨ j = 23 ∨ j = 24 ∨ j = 25 ∨ j = 26 ∨ j = 27 ∨ j = 28 ∨ j = 29 := by omega
          rcases this with rfl | rfl | rfl | rfl | rfl | rfl | rfl | rfl | rfl | rfl | rfl | rfl | rfl | rfl | rfl | rfl | rfl | rfl | rfl | rfl | rfl | rfl | rfl | rfl | rfl | rfl | rfl | rfl | rfl | rfl <;> (intro s a b h; cases h; rfl)
        exact hall j hj s a b hf
      · rw [List.getElem?_eq_none (by omega), List.getElem?_eq_none (by show 30 ≤ j; omega)]
    · cases h

set_option maxHeartbeats 400000 in
theorem portsAll_any (w : World) : Calls Tryz.prog 224 #[] w (GivesV (.agg #[.int .i64 0, .int .i64 65535]) w) := by
  have hB := Blk.new w [.int .i64 0, .int .i64 65535] 228
  have hb : Below w.heap.size w (w.alloc (.cells #[.int .i64 0, .int .i64 65535] 228)) := (Below.refl _ _).alloc (Nat.le_refl _) _
  have c0 := hB.cell (i := 0) rfl
  have c1 := hB.cell (i := 1) rfl
  go_enter Tryz.func224, Tryz.ntmps224
  go_wp2_with fail
  refine bodyPost_ret (v := .agg #[.int .i64 0, .int .i64 65535]) ?_ rfl ⟨rfl, hb⟩
  simp [results, Tryz.results224, go_sem, c0, c1]

set_option maxHeartbeats 2000000 in
theorem readTargetStar_any (w : World) (hF : Rd2 w) : Calls Tryz.prog 149 #[.string ⟨#[42]⟩] w (GivesV (.tuple #[tgA tStar, .bool true]) w) := by
  have hR := Blk.new w zTgC 230
  obtain ⟨wR, hwR⟩ : ∃ x, x = w.alloc (.cells #[.int .i64 0, .string ⟨#[]⟩, .bool false, .int .u64 0, .int .u64 0, .int .i64 0, .int .i64 0, .int .i64 0] 230) := ⟨_, rfl⟩
  have hbw : Below w.heap.size w wR := by rw [hwR]; exact (Below.refl _ _).alloc (Nat.le_refl _) _
  replace hR : Blk wR w.heap.size zTgC 230 := by rw [hwR]; exact hR
  have HC := Lib.hid (show Calls Tryz.prog 82 #[.string ⟨#[42]⟩, .string ⟨#[59]⟩] wR (GivesV (.tuple #[.string ⟨#[42]⟩, .string ⟨#[]⟩, .bool false]) wR) from cutNo_any [42] [59] wR (hF.below hbw) (by decide))
  go_enter Tryz.func149, Tryz.ntmps149
  go_upto_region 1 with fail
  rw [← hwR]
  clear hwR
  go_wp2_with fail
  refine HC.out.mono ?_
  rintro e w1 ⟨rfl, hb1⟩
  replace hbw := hbw.trans (hb1.mono hbw.size)
  replace hR := hR.below hb1
  replace hF := hF.below hbw
  have HW := Lib.hid (readWhatStar_any w1 hF)
  clear HC hb1
  go_wp2_with fail
  refine HW.out.mono ?_
  rintro e w2 ⟨rfl, hb2⟩
  replace hbw := hbw.trans (hb2.mono hbw.size)
  replace hR := hR.below hb2
  clear HW hb2 hF
  have S5 : (stT 222 (.pointer (some ⟨w2.heap.size, 0, none⟩)) (whA wStar)).run Tryz.prog (w2.alloc (.cells #[.int .i64 0, .string ⟨#[]⟩, .bool false, .int .u64 0, .int .u64 0, .int .i64 0] 222)) = .ok .skip (w2.alloc (.cells (whC wStar).toArray 222)) :=
    stT_new rowWh w2 w2.heap.size rfl zWhC (whC wStar) rfl (whC_len _) (whC_one _)
  have hX := Blk.new w2 (whC wStar) 222
  replace hR := hR.alloc (.cells (whC wStar).toArray 222)
  replace hbw := hbw.alloc hbw.size (.cells (whC wStar).toArray 222)
  go_upto_region 3 with fail
  refine wx_begin (none) [4] (by kernel_rfl) (fun u0 hb0' hz0' => ?_)
  replace hR := hR.below hb0'
  replace hX := hX.below hb0'
  replace hbw := hbw.trans (hb0'.mono hbw.size)
  clear hb0' hz0'
  refine wx_takeZ 0 (some 21) (v := ?_) ?_ ?_; rotate_left; · (intro u hu; have k1 := (hX.gn hu).ld rowWh (whC_len wStar); go_simp; try with_reducible rfl)
  try simp only [Act.put, gzD, gzE, gzF]
  refine wx_two (i := 1) (k := 3) (by simp only [gzA, gzB, gzC] <;> rfl) (by simp only [gzA, gzB, gzC] <;> rfl) (by kernel_rfl) (by rfl) (by rfl) (fun K hK => ?_) (fun K hK => ?_)
  · go_simp
    refine (portsAll_any _).mono ?_
    rintro e wq1 ⟨rfl, hv1⟩
    refine hK.out _ _ (gbB hv1) ?_
    replace hR := hR.below hv1
    replace hX := hX.below hv1
    replace hbw := hbw.trans (hv1.mono hbw.size)
    try replace hP := hP.below hv1
    clear hK K hv1
    try simp only [Act.put, gzD, gzE, gzF]
    refine wx_pureZ 2 (some 23) (v := ?_) ?_ ?_; rotate_left; · (intro u; go_simp; try with_reducible rfl)
    try simp only [Act.put, gzD, gzE, gzF]
    refine wx_oneZ 3 (fun K hK => ?_)
    go_simp
    have hpl := hR.lt
    refine hK.out _ _ (World.grownBy_alloc _ _ none) ?_
    refine wx_new (cs := zTgC) (t := 230) (fun ua3 hv1 hP hz1 => ?_)
    replace hR := hR.below hv1
    replace hX := hX.below hv1
    replace hbw := hbw.trans (hv1.mono hbw.size)
    clear hK K hv1 hz1
    try simp only [Act.put, gzD, gzE, gzF]
    refine wx_store (i := 4) (by simp only [gzA, gzB, gzC] <;> rfl) (by kernel_rfl) (by rfl) (by kernel_rfl) (fun K hK => ?_)
    go_simp
    have S := stT_row rowTg hP rfl (tgC_len ⟨wStar, 0, 65535⟩) (tgC_one ⟨wStar, 0, 65535⟩)
    go_simp
    refine hK _ _ ?_
    have hP2 := setRow_heap _ _ _ (tgC ⟨wStar, 0, 65535⟩).toArray _ _ hP
    have hR2 := (setRow_other _ _ w.heap.size (tgC ⟨wStar, 0, 65535⟩).toArray (Nat.ne_of_lt hpl)).trans hR
    have hb2 := below_rowU hbw (Nat.le_of_lt hpl) (tgC ⟨wStar, 0, 65535⟩).toArray
    clear hK K S hP hR hbw hX
    try simp only [Act.put, gzD, gzE, gzF]
    refine wx_done (by kernel_rfl) ?_ _
    replace hP2 : Blk _ _ (tgC tStar) 230 := hP2
    replace hR2 : Blk _ _ zTgC 230 := hR2
    have lP := hP2.ld rowTg (tgC_len tStar)
    have SR := stT_row rowTg hR2 rfl (tgC_len tStar) (tgC_one tStar)
    go_wp2_with fail
    refine bodyPost_ret (v := .tuple #[tgA tStar, .bool true]) (results_cell_tmp_rowU rowTg rfl _ _ w.heap.size _ _ _ rfl rfl (setRow_heap _ w.heap.size _ _ _ _ hR2) (tgC_len _)) rfl ⟨rfl, ?_⟩
    exact below_rowU (p := w.heap.size) hb2 (Nat.le_refl _) _
  · go_simp
    have hpl := hR.lt
    refine hK.out _ _ (World.grownBy_alloc _ _ none) ?_
    refine wx_new (cs := zTgC) (t := 230) (fun ua3 hv1 hP hz1 => ?_)
    replace hR := hR.below hv1
    replace hX := hX.below hv1
    replace hbw := hbw.trans (hv1.mono hbw.size)
    clear hK K hv1 hz1
    try simp only [Act.put, gzD, gzE, gzF]
    refine wx_oneZ 1 (fun K hK => ?_)
    go_simp
    refine (portsAll_any _).mono ?_
    rintro e wq1 ⟨rfl, hv1⟩
    refine hK.out _ _ (gbB hv1) ?_
    replace hR := hR.below hv1
    replace hX := hX.below hv1
    replace hbw := hbw.trans (hv1.mono hbw.size)
    try replace hP := hP.below hv1
    clear hK K hv1
    try simp only [Act.put, gzD, gzE, gzF]
    refine wx_pureZ 2 (some 23) (v := ?_) ?_ ?_; rotate_left; · (intro u; go_simp; try with_reducible rfl)
    try simp only [Act.put, gzD, gzE, gzF]
    refine wx_store (i := 4) (by simp only [gzA, gzB, gzC] <;> rfl) (by kernel_rfl) (by rfl) (by kernel_rfl) (fun K hK => ?_)
    go_simp
    have S := stT_row rowTg hP rfl (tgC_len ⟨wStar, 0, 65535⟩) (tgC_one ⟨wStar, 0, 65535⟩)
    go_simp
    refine hK _ _ ?_
    have hP2 := setRow_heap _ _ _ (tgC ⟨wStar, 0, 65535⟩).toArray _ _ hP
    have hR2 := (setRow_other _ _ w.heap.size (tgC ⟨wStar, 0, 65535⟩).toArray (Nat.ne_of_lt hpl)).trans hR
    have hb2 := below_rowU hbw (Nat.le_of_lt hpl) (tgC ⟨wStar, 0, 65535⟩).toArray
    clear hK K S hP hR hbw hX
    try simp only [Act.put, gzD, gzE, gzF]
    refine wx_done (by kernel_rfl) ?_ _
    replace hP2 : Blk _ _ (tgC tStar) 230 := hP2
    replace hR2 : Blk _ _ zTgC 230 := hR2
    have lP := hP2.ld rowTg (tgC_len tStar)
    have SR := stT_row rowTg hR2 rfl (tgC_len tStar) (tgC_one tStar)
    go_wp2_with fail
    refine bodyPost_ret (v := .tuple #[tgA tStar, .bool true]) (results_cell_tmp_rowU rowTg rfl _ _ w.heap.size _ _ _ rfl rfl (setRow_heap _ w.heap.size _ _ _ _ hR2) (tgC_len _)) rfl ⟨rfl, ?_⟩
    exact below_rowU (p := w.heap.size) hb2 (Nat.le_refl _) _

abbrev pfZ : Pf := (⟨false, 0, 0⟩, 0)
theorem neqPfZ (x y : Operand) (w : World) : (nePf x y (.agg (pfC pfZ).toArray) (.agg #[.bool false, .int .u64 0, .int .u64 0, .int .i64 0])).run Tryz.prog w = .ok (.value (.bool false)) w := by kernel_rfl

set_option maxHeartbeats 2000000 in
theorem checkWhatStar_any (m : Value) (w : World) (hF : Rd2 w) : Calls Tryz.prog 290 #[whA wStar, m] w (GivesV (.int .i64 0) w) := by
  have hX := Blk.new w (whC wStar) 222
  obtain ⟨w1, hw1⟩ : ∃ x, x = w.alloc (.cells (whC wStar).toArray 222) := ⟨_, rfl⟩
  have hb1 : Below w.heap.size w w1 := by rw [hw1]; exact (Below.refl _ _).alloc (Nat.le_refl _) _
  replace hX : Blk w1 w.heap.size (whC wStar) 222 := by rw [hw1]; exact hX
  have hF1 := hF.below hb1
  have d0 : w1.cell? ⟨0, 0, none⟩ = some (.string ⟨#[42]⟩) := hF1.forms 0 _ rfl
  have d1 : w1.cell? ⟨0, 1, none⟩ = some (.bool false) := hF1.forms 1 _ rfl
  have d2 : w1.cell? ⟨0, 2, none⟩ = some (.bool false) := hF1.forms 2 _ rfl
  have c0 : w1.cell? ⟨w.heap.size, 0, none⟩ = some (.int .i64 1) := hX.cell (i := 0) rfl
  have hX2 := hX.alloc (.cells #[.string ⟨#[42]⟩, .bool false, .bool false] 313)
  have e0 : (w1.alloc (.cells #[.string ⟨#[42]⟩, .bool false, .bool false] 313)).cell? ⟨w.heap.size, 0, none⟩ = some (.int .i64 1) := hX2.cell (i := 0) rfl
  have e1 : (w1.alloc (.cells #[.string ⟨#[42]⟩, .bool false, .bool false] 313)).cell? ⟨w.heap.size, 1, none⟩ = some (.string ⟨#[]⟩) := hX2.cell (i := 1) rfl
  have eP : (ldT 41 (.pointer (some ⟨w.heap.size, 2, none⟩))).run Tryz.prog (w1.alloc (.cells #[.string ⟨#[42]⟩, .bool false, .bool false] 313)) = .ok (.value (.agg (pfC pfZ).toArray)) (w1.alloc (.cells #[.string ⟨#[42]⟩, .bool false, .bool false] 313)) := hX2.ldAt rowPf 2 (pfC pfZ) [] rfl rfl
  have hb2 := hb1.alloc hb1.size (.cells #[.string ⟨#[42]⟩, .bool false, .bool false] 313)
  have nq := neqPfZ
  clear hX hX2 hF hF1
  go_enter Tryz.func290, Tryz.ntmps290
  go_upto_region 1 with fail
  rw [← hw1]
  clear hw1
  go_wp2_with fail
  go_ret
  exact ⟨rfl, hb2⟩
end Go.Proofs.YtfbggfpihiegpaaGreatDoor
