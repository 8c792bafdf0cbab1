/- FlowsTurned: Back and CheckTimes are as specified. -/
import Derived.Test.YtlnflihnmdpilaaFltC
import Derived.Test.YtlnflihnmdpilaaFltD
namespace Go.Proofs.Ytlnflihnmdpilaa
open Go.RowKit
set_option linter.unusedVariables false
set_option linter.unusedSimpArgs false

set_option maxHeartbeats 400000 in
theorem back_any (p : Int) (fs : Bool) (fh fl : Int) (ts : Bool) (th tl a b : Int) (w : World) :
    Calls Try.prog 32 #[flV p fs fh fl ts th tl a b] w (GivesV (flV p ts th tl fs fh fl b a) w) := by
  go_enter Try.func32, Try.ntmps32
  go_wp2_with fail
  refine bodyPost_ret (v := flV p ts th tl fs fh fl b a) ?_ rfl ⟨rfl, ?_⟩
  · simp [results, Try.results32, go_sem]
  · exact ((Below.refl _ _).alloc (Nat.le_refl _) _).alloc (by simp) _

set_option maxHeartbeats 400000 in
theorem backOf_any (p : Int) (fs : Bool) (fh fl : Int) (ts : Bool) (th tl a b : Int) (w : World) :
    Calls Try.prog 20 #[flV p fs fh fl ts th tl a b] w (GivesV (flV p ts th tl fs fh fl b a) w) := by
  go_enter Try.func20, Try.ntmps20
  go_wp2_with fail
  refine bodyPost_ret (v := flV p ts th tl fs fh fl b a) ?_ rfl ⟨rfl, ?_⟩
  · simp [results, Try.results20, go_sem]
  · exact ((Below.refl _ _).alloc (Nat.le_refl _) _).alloc (by simp) _

theorem below_9 {B q : Nat} {w W : World} (h : Below B w W) (hq : B ≤ q) (x0 x1 x2 x3 x4 x5 x6 x7 x8 : Value) :
    Below B w (((((((((W.setCell ⟨q, 0, none⟩ x0).setCell ⟨q, 1, none⟩ x1).setCell ⟨q, 2, none⟩ x2).setCell ⟨q, 3, none⟩ x3).setCell ⟨q, 4, none⟩ x4).setCell ⟨q, 5, none⟩ x5).setCell ⟨q, 6, none⟩ x6).setCell ⟨q, 7, none⟩ x7).setCell ⟨q, 8, none⟩ x8) :=
  ((((((((h.setCell hq _).setCell hq _).setCell hq _).setCell hq _).setCell hq _).setCell hq _).setCell hq _).setCell hq _).setCell hq _

set_option maxHeartbeats 1000000 in
theorem backF_ok (p : Int) (fs : Bool) (fh fl : Int) (ts : Bool) (th tl a b : Int) (w : World) (hF : flF p fs fh fl ts th tl a b = 0) :
    Calls Try.prog 18 #[flV p fs fh fl ts th tl a b] w (GivesV (.tuple #[flV p ts th tl fs fh fl b a, .int .i64 0]) w) := by
  have hX := blk2 w (flL p fs fh fl ts th tl a b) (flL 0 false 0 0 false 0 0 0 0) 44 44
  have hb := below_two w (.cells (flL p fs fh fl ts th tl a b).toArray 44) (.cells (flL 0 false 0 0 false 0 0 0 0).toArray 44)
  have HC := Lib.hid (fun w' => checkFlow_any p fs fh fl ts th tl a b w')
  have HK := Lib.hid (fun w' => back_any p fs fh fl ts th tl a b w')
  rw [hF] at HC
  clear hF
  go_enter Try.func18, Try.ntmps18
  go_wp2_with fail
  refine (HC.out _).mono ?_
  rintro e w1 ⟨rfl, hb1⟩
  have hA := hX.1.below hb1
  have hZ := hX.2.below hb1
  replace hb := hb.trans (hb1.mono (by simp; omega))
  obtain ⟨c0, c1, c2, c3, c4, c5, c6, c7, c8⟩ := hA.nine
  clear hX hb1
  go_wp2_with fail
  refine (HK.out _).mono ?_
  rintro e w2 ⟨rfl, hb2⟩
  replace hZ := hZ.below hb2
  replace hb := hb.trans (hb2.mono hb.size)
  obtain ⟨u0, u1, u2, u3, u4, u5, u6, u7, u8⟩ := hZ.nine
  obtain ⟨g0, g1, g2, g3, g4, g5, g6, g7, g8⟩ : _ ∧ _ ∧ _ ∧ _ ∧ _ ∧ _ ∧ _ ∧ _ ∧ _ := ⟨hZ.free 0, hZ.free 1, hZ.free 2, hZ.free 3, hZ.free 4, hZ.free 5, hZ.free 6, hZ.free 7, hZ.free 8⟩
  clear hA hb2 c0 c1 c2 c3 c4 c5 c6 c7 c8
  go_wp2_with fail
  refine bodyPost_ret (v := .tuple #[flV p ts th tl fs fh fl b a, .int .i64 0]) ?_ rfl ⟨rfl, below_9 hb (by simp) _ _ _ _ _ _ _ _ _⟩
  simp [results, Try.results18, go_sem, u0, u1, u2, u3, u4, u5, u6, u7, u8]

set_option maxHeartbeats 1000000 in
theorem backF_bad (p : Int) (fs : Bool) (fh fl : Int) (ts : Bool) (th tl a b c : Int) (w : World) (hF : flF p fs fh fl ts th tl a b = c) (hc : c ≠ 0) :
    Calls Try.prog 18 #[flV p fs fh fl ts th tl a b] w (GivesV (.tuple #[flV 0 false 0 0 false 0 0 0 0, .int .i64 c]) w) := by
  have hX := blk2 w (flL p fs fh fl ts th tl a b) (flL 0 false 0 0 false 0 0 0 0) 44 44
  have hb := below_two w (.cells (flL p fs fh fl ts th tl a b).toArray 44) (.cells (flL 0 false 0 0 false 0 0 0 0).toArray 44)
  have HC := Lib.hid (fun w' => checkFlow_any p fs fh fl ts th tl a b w')
  rw [hF] at HC
  have b0 : (c != 0) = true := by simpa using hc
  clear hF hc
  go_enter Try.func18, Try.ntmps18
  go_wp2_with fail
  refine (HC.out _).mono ?_
  rintro e w1 ⟨rfl, hb1⟩
  have hZ := hX.2.below hb1
  replace hb := hb.trans (hb1.mono (by simp; omega))
  obtain ⟨u0, u1, u2, u3, u4, u5, u6, u7, u8⟩ := hZ.nine
  obtain ⟨g0, g1, g2, g3, g4, g5, g6, g7, g8⟩ : _ ∧ _ ∧ _ ∧ _ ∧ _ ∧ _ ∧ _ ∧ _ ∧ _ := ⟨hZ.free 0, hZ.free 1, hZ.free 2, hZ.free 3, hZ.free 4, hZ.free 5, hZ.free 6, hZ.free 7, hZ.free 8⟩
  clear hX hb1
  go_wp2_with fail
  refine bodyPost_ret (v := .tuple #[flV 0 false 0 0 false 0 0 0 0, .int .i64 c]) ?_ rfl ⟨rfl, below_9 hb (by simp) _ _ _ _ _ _ _ _ _⟩
  simp [results, Try.results18, go_sem, u0, u1, u2, u3, u4, u5, u6, u7, u8]

set_option maxHeartbeats 1000000 in
theorem fl_same (p : Int) (fs : Bool) (fh fl : Int) (ts : Bool) (th tl a b : Int) (w : World) : (Op.equalIn 10000 44 (flV p fs fh fl ts th tl a b) (flV p fs fh fl ts th tl a b)).run Try.prog w = .ok true w := by
  rw [show (10000 : Nat) = 9999 + 1 from rfl, run_equalIn_agg w 9999 44 _ _ (by kernel_rfl) (by kernel_rfl)]
  simp only [Program.fieldsOf, Try.underlying44]
  go_simp
/-- A test of two values, as one step. -/
def neFl (x y : Operand) (a b : Value) : Sem Next := do
  let v ← (do eqGuard .neq 44 x y a b; binOp .neq 44 a b)
  pure (.value v)
@[go_sem ↓ high] theorem execOp_neFl' (ρ : Operand → Value) (dst : Option Tmp) (x y : Operand) (r ty : TypeId) (pos : String) (after : Array Edge) (guard : Option (Nat × Bool)) :
    execOp ρ ⟨dst, .binOp .neq 44 x y r, ty, pos, after, guard⟩ = neFl x y (ρ x) (ρ y) := rfl
@[go_sem high] theorem execOp_neFl (ρ : Operand → Value) (dst : Option Tmp) (x y : Operand) (r ty : TypeId) (pos : String) (after : Array Edge) (guard : Option (Nat × Bool)) :
    execOp ρ ⟨dst, .binOp .neq 44 x y r, ty, pos, after, guard⟩ = neFl x y (ρ x) (ρ y) := rfl
@[go_sem] theorem run_neFl (x y : Operand) (p : Int) (fs : Bool) (fh fl : Int) (ts : Bool) (th tl a b : Int) (w : World) : (neFl x y (flV p fs fh fl ts th tl a b) (flV p fs fh fl ts th tl a b)).run Try.prog w = .ok (.value (.bool false)) w := by
  unfold neFl
  simp only [Sem.run_bind, run_neq_struct, fl_same, run_eqGuard_agg _ _ _ _ _ _ _ Try.eqGuardType44, Result.andThen_ok, Sem.run_pure]
  rfl

/-- The three blocks of the law. -/
structure FT (w0 : World) (p4 p5 p6 : Nat) (F T B : List Value) (w : World) : Prop where
  a : Blk w p4 F 44
  t : Blk w p5 T 47
  k : Blk w p6 B 44
  base : Below w0.heap.size w0 w
theorem FT.below {w0 : World} {p4 p5 p6 : Nat} {F T B : List Value} {w w' : World} (h : FT w0 p4 p5 p6 F T B w) (hb : Below w.heap.size w w') : FT w0 p4 p5 p6 F T B w' :=
  ⟨h.a.below hb, h.t.below hb, h.k.below hb, h.base.trans (hb.mono h.base.size)⟩

set_option maxHeartbeats 8000000 in
set_option maxRecDepth 100000 in
theorem flowsTurned_walk (a : Option Addr) (len cap : Nat) (w : World) (hs : Str (w.alloc (.cells #[.slice a len cap, .int .i64 0] 25)) w.heap.size 1000) :
    Calls Try.prog 4 #[.slice a len cap] w fun e w' => e = .returned (.bool true) ∧ Below w.heap.size w w' := by
  have hB0 : Below w.heap.size w (w.alloc (.cells #[.slice a len cap, .int .i64 0] 25)) := (Below.refl _ _).alloc (Nat.le_refl _) _
  go_enter Try.func4, Try.ntmps4
  go_wp2_with fail
  refine (flow_any _ _ 982 hs).mono ?_
  rintro e w1 ⟨p, fs, fh, fl, ts, th, tl, x, y, hU, rfl, hs1, hg1⟩
  have hC1 : Below w.heap.size w w1 := hB0.trans (gb_toBelow hg1 (Nat.le_refl _) (by simp))
  clear hs hB0 hg1
  go_wp2_with fail
  refine (times_any _ _ 973 hs1).mono ?_
  rintro e w2 ⟨m0, m1, m2, m3, rfl, hs2, hg2⟩
  have hC2 : Below w.heap.size w w2 := hC1.trans (gb_toBelow hg2 (Nat.le_refl _) (by have := hs1.lt; omega))
  clear hs1 hC1 hg2 hs2
  have hX := blk2 w2 (flL p fs fh fl ts th tl x y) [.int .i64 m0, .int .i64 m1, .int .i64 m2, .int .i64 m3] 44 47
  have hC3 := hC2.trans ((below_two w2 (.cells (flL p fs fh fl ts th tl x y).toArray 44) (.cells #[.int .i64 m0, .int .i64 m1, .int .i64 m2, .int .i64 m3] 47)).mono hC2.size)
  have HFF := Lib.hid (fun w' => flowFault_any p fs fh fl ts th tl x y w' hU.1.1 hU.2.2.1.1)
  have HBO := Lib.hid (fun w' => backOf_any p fs fh fl ts th tl x y w')
  have HT1 := Lib.hid (fun w' => checkTimes_any m0 m1 m2 m3 w')
  have HT2 := Lib.hid (fun w' => timesFault_any m0 m1 m2 m3 w')
  have HFD := Lib.hid (fun w' => filtered_any w')
  generalize tmF m0 m1 m2 m3 = tm at HT1 HT2
  clear hU hC2
  by_cases hc : flF p fs fh fl ts th tl x y = 0
  · have HBK := Lib.hid (fun w' => backF_ok p fs fh fl ts th tl x y w' hc)
    rw [hc] at HFF
    clear hc
    go_wp2_with fail
    refine (HBK.out _).mono ?_
    rintro e w3 ⟨rfl, hb3⟩
    have hZ3 : w2.heap.size + 2 ≤ w3.heap.size := by have := hb3.size; simpa using this
    have hX : FT w w2.heap.size (w2.heap.size + 1) w3.heap.size (flL p fs fh fl ts th tl x y) [.int .i64 m0, .int .i64 m1, .int .i64 m2, .int .i64 m3] (flL p ts th tl fs fh fl y x) (w3.alloc (.cells (flL p ts th tl fs fh fl y x).toArray 44)) :=
      ⟨(hX.1.below hb3).alloc _, (hX.2.below hb3).alloc _, Blk.new w3 _ _, (hC3.trans (hb3.mono hC3.size)).alloc (hC3.trans (hb3.mono hC3.size)).size _⟩
    have hl1 : w2.heap.size < w3.heap.size := by omega
    have hl2 : w2.heap.size + 1 < w3.heap.size := by omega
    clear hC3 hb3 HBK
    obtain ⟨c0, c1, c2, c3, c4, c5, c6, c7, c8⟩ := hX.a.nine
    go_wp2_with fail
    refine (HFF.out _).mono ?_
    rintro e w4 ⟨rfl, hb4⟩
    replace hX := hX.below hb4
    clear hb4 HFF c0 c1 c2 c3 c4 c5 c6 c7 c8
    generalize w2.heap.size = q4 at *
    generalize w3.heap.size = q6 at *
    go_upto_region 5 with fail
    refine wx_begin (none) [] (by kernel_rfl) (fun u0 hb0' hz0' => ?_)
    replace hX := hX.below hb0'
    clear hb0' hz0'
    refine wx_pure (i := 0) (d := some 23) (v := ?_) (by simp only [List.getElem?_toArray, List.getElem?_cons_succ, List.getElem?_cons_zero] <;> rfl) (by rfl) (by kernel_rfl) (by kernel_rfl) (by kernel_rfl) (fun _ _ _ h => h) (by rfl) ?_ ?_
    rotate_left
    · ((intro u); go_simp; try with_reducible rfl)
    try simp only [Act.put, List.setIfInBounds_toArray, List.set_cons_zero, List.set_cons_succ]
    refine wx_pure (i := 1) (d := some 24) (v := ?_) (by simp only [List.getElem?_toArray, List.getElem?_cons_succ, List.getElem?_cons_zero] <;> rfl) (by rfl) (by kernel_rfl) (by kernel_rfl) (by kernel_rfl) (fun _ _ _ h => h) (by rfl) ?_ ?_
    rotate_left
    · ((intro u); go_simp; try with_reducible rfl)
    try simp only [Act.put, List.setIfInBounds_toArray, List.set_cons_zero, List.set_cons_succ]
    refine wx_pure (i := 2) (d := some 25) (v := ?_) (by simp only [List.getElem?_toArray, List.getElem?_cons_succ, List.getElem?_cons_zero] <;> rfl) (by rfl) (by kernel_rfl) (by kernel_rfl) (by kernel_rfl) (fun _ _ _ h => h) (by rfl) ?_ ?_
    rotate_left
    · ((intro u); go_simp; try with_reducible rfl)
    try simp only [Act.put, List.setIfInBounds_toArray, List.set_cons_zero, List.set_cons_succ]
    refine wx_pure (i := 3) (d := some 26) (v := ?_) (by simp only [List.getElem?_toArray, List.getElem?_cons_succ, List.getElem?_cons_zero] <;> rfl) (by rfl) (by kernel_rfl) (by kernel_rfl) (by kernel_rfl) (fun _ _ _ h => h) (by rfl) ?_ ?_
    rotate_left
    · ((intro u); go_simp; try with_reducible rfl)
    try simp only [Act.put, List.setIfInBounds_toArray, List.set_cons_zero, List.set_cons_succ]
    refine wx_pure (i := 4) (d := some 27) (v := ?_) (by simp only [List.getElem?_toArray, List.getElem?_cons_succ, List.getElem?_cons_zero] <;> rfl) (by rfl) (by kernel_rfl) (by kernel_rfl) (by kernel_rfl) (fun _ _ _ h => h) (by rfl) ?_ ?_
    rotate_left
    · ((intro u); go_simp; try with_reducible rfl)
    try simp only [Act.put, List.setIfInBounds_toArray, List.set_cons_zero, List.set_cons_succ]
    refine wx_pure (i := 5) (d := some 28) (v := ?_) (by simp only [List.getElem?_toArray, List.getElem?_cons_succ, List.getElem?_cons_zero] <;> rfl) (by rfl) (by kernel_rfl) (by kernel_rfl) (by kernel_rfl) (fun _ _ _ h => h) (by rfl) ?_ ?_
    rotate_left
    · ((intro u); go_simp; try with_reducible rfl)
    try simp only [Act.put, List.setIfInBounds_toArray, List.set_cons_zero, List.set_cons_succ]
    refine wx_pure (i := 6) (d := some 29) (v := ?_) (by simp only [List.getElem?_toArray, List.getElem?_cons_succ, List.getElem?_cons_zero] <;> rfl) (by rfl) (by kernel_rfl) (by kernel_rfl) (by kernel_rfl) (fun _ _ _ h => h) (by rfl) ?_ ?_
    rotate_left
    · ((intro u); go_simp; try with_reducible rfl)
    try simp only [Act.put, List.setIfInBounds_toArray, List.set_cons_zero, List.set_cons_succ]
    refine wx_take (i := 7) (d := some 30) (v := ?_) (by simp only [List.getElem?_toArray, List.getElem?_cons_succ, List.getElem?_cons_zero] <;> rfl) (by rfl) (by kernel_rfl) (by kernel_rfl) (by kernel_rfl) (fun _ _ _ h => h) (by rfl) (by kernel_rfl) ?_ ?_
    rotate_left
    · ((intro u hu); obtain ⟨c0, c1, c2, c3, c4, c5, c6, c7, c8⟩ := (hX.a.gn hu).nine; obtain ⟨d0, d1, d2, d3, _⟩ := (hX.t.gn hu).four; obtain ⟨e0, e1, e2, e3, e4, e5, e6, e7, e8⟩ := (hX.k.gn hu).nine; go_simp; try with_reducible rfl)
    try simp only [Act.put, List.setIfInBounds_toArray, List.set_cons_zero, List.set_cons_succ]
    refine wx_take (i := 8) (d := some 31) (v := ?_) (by simp only [List.getElem?_toArray, List.getElem?_cons_succ, List.getElem?_cons_zero] <;> rfl) (by rfl) (by kernel_rfl) (by kernel_rfl) (by kernel_rfl) (fun _ _ _ h => h) (by rfl) (by kernel_rfl) ?_ ?_
    rotate_left
    · ((intro u hu); obtain ⟨c0, c1, c2, c3, c4, c5, c6, c7, c8⟩ := (hX.a.gn hu).nine; obtain ⟨d0, d1, d2, d3, _⟩ := (hX.t.gn hu).four; obtain ⟨e0, e1, e2, e3, e4, e5, e6, e7, e8⟩ := (hX.k.gn hu).nine; go_simp; try with_reducible rfl)
    try simp only [Act.put, List.setIfInBounds_toArray, List.set_cons_zero, List.set_cons_succ]
    refine wx_one (i := 9) (by simp only [List.getElem?_toArray, List.getElem?_cons_succ, List.getElem?_cons_zero] <;> rfl) (by kernel_rfl) (by rfl) (fun K hK => ?_)
    go_simp
    refine (HBO.out _).mono ?_
    rintro e u9 ⟨rfl, hv9⟩
    refine hK.out _ _ (gbB hv9) ?_
    replace hX := hX.below hv9
    clear hK K hv9
    try simp only [Act.put, List.setIfInBounds_toArray, List.set_cons_zero, List.set_cons_succ]
    refine wx_pure (i := 10) (d := some 33) (v := ?_) (by simp only [List.getElem?_toArray, List.getElem?_cons_succ, List.getElem?_cons_zero] <;> rfl) (by rfl) (by kernel_rfl) (by kernel_rfl) (by kernel_rfl) (fun _ _ _ h => h) (by rfl) ?_ ?_
    rotate_left
    · ((intro u); go_simp; try with_reducible rfl)
    try simp only [Act.put, List.setIfInBounds_toArray, List.set_cons_zero, List.set_cons_succ]
    refine wx_pure (i := 11) (d := some 34) (v := ?_) (by simp only [List.getElem?_toArray, List.getElem?_cons_succ, List.getElem?_cons_zero] <;> rfl) (by rfl) (by kernel_rfl) (by kernel_rfl) (by kernel_rfl) (fun _ _ _ h => h) (by rfl) ?_ ?_
    rotate_left
    · ((intro u); go_simp; try with_reducible rfl)
    try simp only [Act.put, List.setIfInBounds_toArray, List.set_cons_zero, List.set_cons_succ]
    refine wx_pure (i := 12) (d := some 35) (v := ?_) (by simp only [List.getElem?_toArray, List.getElem?_cons_succ, List.getElem?_cons_zero] <;> rfl) (by rfl) (by kernel_rfl) (by kernel_rfl) (by kernel_rfl) (fun _ _ _ h => h) (by rfl) ?_ ?_
    rotate_left
    · ((intro u); go_simp; try with_reducible rfl)
    try simp only [Act.put, List.setIfInBounds_toArray, List.set_cons_zero, List.set_cons_succ]
    refine wx_pure (i := 13) (d := some 36) (v := ?_) (by simp only [List.getElem?_toArray, List.getElem?_cons_succ, List.getElem?_cons_zero] <;> rfl) (by rfl) (by kernel_rfl) (by kernel_rfl) (by kernel_rfl) (fun _ _ _ h => h) (by rfl) ?_ ?_
    rotate_left
    · ((intro u); go_simp; try with_reducible rfl)
    try simp only [Act.put, List.setIfInBounds_toArray, List.set_cons_zero, List.set_cons_succ]
    refine wx_pure (i := 14) (d := some 37) (v := ?_) (by simp only [List.getElem?_toArray, List.getElem?_cons_succ, List.getElem?_cons_zero] <;> rfl) (by rfl) (by kernel_rfl) (by kernel_rfl) (by kernel_rfl) (fun _ _ _ h => h) (by rfl) ?_ ?_
    rotate_left
    · ((intro u); go_simp; try with_reducible rfl)
    try simp only [Act.put, List.setIfInBounds_toArray, List.set_cons_zero, List.set_cons_succ]
    refine wx_pure (i := 15) (d := some 38) (v := ?_) (by simp only [List.getElem?_toArray, List.getElem?_cons_succ, List.getElem?_cons_zero] <;> rfl) (by rfl) (by kernel_rfl) (by kernel_rfl) (by kernel_rfl) (fun _ _ _ h => h) (by rfl) ?_ ?_
    rotate_left
    · ((intro u); go_simp; try with_reducible rfl)
    try simp only [Act.put, List.setIfInBounds_toArray, List.set_cons_zero, List.set_cons_succ]
    refine wx_pure (i := 16) (d := some 39) (v := ?_) (by simp only [List.getElem?_toArray, List.getElem?_cons_succ, List.getElem?_cons_zero] <;> rfl) (by rfl) (by kernel_rfl) (by kernel_rfl) (by kernel_rfl) (fun _ _ _ h => h) (by rfl) ?_ ?_
    rotate_left
    · ((intro u); go_simp; try with_reducible rfl)
    try simp only [Act.put, List.setIfInBounds_toArray, List.set_cons_zero, List.set_cons_succ]
    refine wx_skip (i := 17) (d := some 40) (by simp only [List.getElem?_toArray, List.getElem?_cons_succ, List.getElem?_cons_zero] <;> rfl) (by rfl) (by kernel_rfl) (by kernel_rfl) (by kernel_rfl) (fun _ _ _ h => h) (by rfl) ?_
    try simp only [Act.put, List.setIfInBounds_toArray, List.set_cons_zero, List.set_cons_succ]
    refine wx_skip (i := 18) (d := some 41) (by simp only [List.getElem?_toArray, List.getElem?_cons_succ, List.getElem?_cons_zero] <;> rfl) (by rfl) (by kernel_rfl) (by kernel_rfl) (by kernel_rfl) (fun _ _ _ h => h) (by rfl) ?_
    try simp only [Act.put, List.setIfInBounds_toArray, List.set_cons_zero, List.set_cons_succ]
    refine wx_skip (i := 19) (d := some 42) (by simp only [List.getElem?_toArray, List.getElem?_cons_succ, List.getElem?_cons_zero] <;> rfl) (by rfl) (by kernel_rfl) (by kernel_rfl) (by kernel_rfl) (fun _ _ _ h => h) (by rfl) ?_
    try simp only [Act.put, List.setIfInBounds_toArray, List.set_cons_zero, List.set_cons_succ]
    refine wx_pure (i := 20) (d := some 43) (v := ?_) (by simp only [List.getElem?_toArray, List.getElem?_cons_succ, List.getElem?_cons_zero] <;> rfl) (by rfl) (by kernel_rfl) (by kernel_rfl) (by kernel_rfl) (fun _ _ _ h => h) (by rfl) ?_ ?_
    rotate_left
    · ((intro u); go_simp; try with_reducible rfl)
    try simp only [Act.put, List.setIfInBounds_toArray, List.set_cons_zero, List.set_cons_succ]
    refine wx_pure (i := 21) (d := some 44) (v := ?_) (by simp only [List.getElem?_toArray, List.getElem?_cons_succ, List.getElem?_cons_zero] <;> rfl) (by rfl) (by kernel_rfl) (by kernel_rfl) (by kernel_rfl) (fun _ _ _ h => h) (by rfl) ?_ ?_
    rotate_left
    · ((intro u); go_simp; try with_reducible rfl)
    try simp only [Act.put, List.setIfInBounds_toArray, List.set_cons_zero, List.set_cons_succ]
    refine wx_done (by kernel_rfl) ?_ _
    skip
    go_wp2_with fail
    refine wx_begin (none) [] (by kernel_rfl) (fun u0 hb0' hz0' => ?_)
    replace hX := hX.below hb0'
    clear hb0' hz0'
    refine wx_take (i := 0) (d := some 45) (v := ?_) (by simp only [List.getElem?_toArray, List.getElem?_cons_succ, List.getElem?_cons_zero] <;> rfl) (by rfl) (by kernel_rfl) (by kernel_rfl) (by kernel_rfl) (fun _ _ _ h => h) (by rfl) (by kernel_rfl) ?_ ?_
    rotate_left
    · ((intro u hu); obtain ⟨c0, c1, c2, c3, c4, c5, c6, c7, c8⟩ := (hX.a.gn hu).nine; obtain ⟨d0, d1, d2, d3, _⟩ := (hX.t.gn hu).four; obtain ⟨e0, e1, e2, e3, e4, e5, e6, e7, e8⟩ := (hX.k.gn hu).nine; go_simp; try with_reducible rfl)
    try simp only [Act.put, List.setIfInBounds_toArray, List.set_cons_zero, List.set_cons_succ]
    refine wx_take (i := 2) (d := some 47) (v := ?_) (by simp only [List.getElem?_toArray, List.getElem?_cons_succ, List.getElem?_cons_zero] <;> rfl) (by rfl) (by kernel_rfl) (by kernel_rfl) (by kernel_rfl) (fun _ _ _ h => h) (by rfl) (by kernel_rfl) ?_ ?_
    rotate_left
    · ((intro u hu); obtain ⟨c0, c1, c2, c3, c4, c5, c6, c7, c8⟩ := (hX.a.gn hu).nine; obtain ⟨d0, d1, d2, d3, _⟩ := (hX.t.gn hu).four; obtain ⟨e0, e1, e2, e3, e4, e5, e6, e7, e8⟩ := (hX.k.gn hu).nine; go_simp; try with_reducible rfl)
    try simp only [Act.put, List.setIfInBounds_toArray, List.set_cons_zero, List.set_cons_succ]
    refine wx_one (i := 1) (by simp only [List.getElem?_toArray, List.getElem?_cons_succ, List.getElem?_cons_zero] <;> rfl) (by kernel_rfl) (by rfl) (fun K hK => ?_)
    go_simp
    refine (HT1.out _).mono ?_
    rintro e u1 ⟨rfl, hv1⟩
    refine hK.out _ _ (gbB hv1) ?_
    replace hX := hX.below hv1
    clear hK K hv1
    try simp only [Act.put, List.setIfInBounds_toArray, List.set_cons_zero, List.set_cons_succ]
    refine wx_one (i := 3) (by simp only [List.getElem?_toArray, List.getElem?_cons_succ, List.getElem?_cons_zero] <;> rfl) (by kernel_rfl) (by rfl) (fun K hK => ?_)
    go_simp
    refine (HT2.out _).mono ?_
    rintro e u3 ⟨rfl, hv3⟩
    refine hK.out _ _ (gbB hv3) ?_
    replace hX := hX.below hv3
    clear hK K hv3
    try simp only [Act.put, List.setIfInBounds_toArray, List.set_cons_zero, List.set_cons_succ]
    refine wx_pure (i := 4) (d := some 49) (v := ?_) (by simp only [List.getElem?_toArray, List.getElem?_cons_succ, List.getElem?_cons_zero] <;> rfl) (by rfl) (by kernel_rfl) (by kernel_rfl) (by kernel_rfl) (fun _ _ _ h => h) (by rfl) ?_ ?_
    rotate_left
    · ((intro u); go_simp; try with_reducible rfl)
    try simp only [Act.put, List.setIfInBounds_toArray, List.set_cons_zero, List.set_cons_succ]
    refine wx_pure (i := 5) (d := some 50) (v := ?_) (by simp only [List.getElem?_toArray, List.getElem?_cons_succ, List.getElem?_cons_zero] <;> rfl) (by rfl) (by kernel_rfl) (by kernel_rfl) (by kernel_rfl) (fun _ _ _ h => h) (by rfl) ?_ ?_
    rotate_left
    · ((intro u); go_simp; try with_reducible rfl)
    try simp only [Act.put, List.setIfInBounds_toArray, List.set_cons_zero, List.set_cons_succ]
    refine wx_one (i := 6) (by simp only [List.getElem?_toArray, List.getElem?_cons_succ, List.getElem?_cons_zero] <;> rfl) (by kernel_rfl) (by rfl) (fun K hK => ?_)
    go_simp
    refine (HFD.out _).mono ?_
    rintro e u6 ⟨rfl, hv6⟩
    refine hK.out _ _ (gbB hv6) ?_
    replace hX := hX.below hv6
    clear hK K hv6
    try simp only [Act.put, List.setIfInBounds_toArray, List.set_cons_zero, List.set_cons_succ]
    refine wx_pure (i := 7) (d := some 52) (v := ?_) (by simp only [List.getElem?_toArray, List.getElem?_cons_succ, List.getElem?_cons_zero] <;> rfl) (by rfl) (by kernel_rfl) (by kernel_rfl) (by kernel_rfl) (fun _ _ _ h => h) (by rfl) ?_ ?_
    rotate_left
    · ((intro u); go_simp; try with_reducible rfl)
    try simp only [Act.put, List.setIfInBounds_toArray, List.set_cons_zero, List.set_cons_succ]
    refine wx_pure (i := 8) (d := some 2) (v := ?_) (by simp only [List.getElem?_toArray, List.getElem?_cons_succ, List.getElem?_cons_zero] <;> rfl) (by rfl) (by kernel_rfl) (by kernel_rfl) (by kernel_rfl) (fun _ _ _ h => h) (by rfl) ?_ ?_
    rotate_left
    · ((intro u); go_simp; try with_reducible rfl)
    try simp only [Act.put, List.setIfInBounds_toArray, List.set_cons_zero, List.set_cons_succ]
    refine wx_done (by kernel_rfl) ?_ _
    go_wp2_with fail
    go_ret
    exact ⟨rfl, hX.base⟩
  · obtain ⟨c, hc'⟩ : ∃ c, flF p fs fh fl ts th tl x y = c := ⟨_, rfl⟩
    have HBK := Lib.hid (fun w' => backF_bad p fs fh fl ts th tl x y c w' hc' (by rw [← hc']; exact hc))
    rw [hc'] at HFF hc
    have b0 : (c == 0) = false := by simpa using hc
    have b1 : (c != 0) = true := by simpa using hc
    clear hc hc'
    go_wp2_with fail
    refine (HBK.out _).mono ?_
    rintro e w3 ⟨rfl, hb3⟩
    have hZ3 : w2.heap.size + 2 ≤ w3.heap.size := by have := hb3.size; simpa using this
    have hX : FT w w2.heap.size (w2.heap.size + 1) w3.heap.size (flL p fs fh fl ts th tl x y) [.int .i64 m0, .int .i64 m1, .int .i64 m2, .int .i64 m3] (flL 0 false 0 0 false 0 0 0 0) (w3.alloc (.cells (flL 0 false 0 0 false 0 0 0 0).toArray 44)) :=
      ⟨(hX.1.below hb3).alloc _, (hX.2.below hb3).alloc _, Blk.new w3 _ _, (hC3.trans (hb3.mono hC3.size)).alloc (hC3.trans (hb3.mono hC3.size)).size _⟩
    have hl1 : w2.heap.size < w3.heap.size := by omega
    have hl2 : w2.heap.size + 1 < w3.heap.size := by omega
    clear hC3 hb3 HBK
    obtain ⟨c0, c1, c2, c3, c4, c5, c6, c7, c8⟩ := hX.a.nine
    go_wp2_with fail
    refine (HFF.out _).mono ?_
    rintro e w4 ⟨rfl, hb4⟩
    replace hX := hX.below hb4
    clear hb4 HFF c0 c1 c2 c3 c4 c5 c6 c7 c8
    generalize w2.heap.size = q4 at *
    generalize w3.heap.size = q6 at *
    go_upto_region 5 with fail
    refine wx_begin (none) [] (by kernel_rfl) (fun u0 hb0' hz0' => ?_)
    replace hX := hX.below hb0'
    clear hb0' hz0'
    refine wx_pure (i := 0) (d := some 23) (v := ?_) (by simp only [List.getElem?_toArray, List.getElem?_cons_succ, List.getElem?_cons_zero] <;> rfl) (by rfl) (by kernel_rfl) (by kernel_rfl) (by kernel_rfl) (fun _ _ _ h => h) (by rfl) ?_ ?_
    rotate_left
    · ((intro u); go_simp; try with_reducible rfl)
    try simp only [Act.put, List.setIfInBounds_toArray, List.set_cons_zero, List.set_cons_succ]
    refine wx_pure (i := 1) (d := some 24) (v := ?_) (by simp only [List.getElem?_toArray, List.getElem?_cons_succ, List.getElem?_cons_zero] <;> rfl) (by rfl) (by kernel_rfl) (by kernel_rfl) (by kernel_rfl) (fun _ _ _ h => h) (by rfl) ?_ ?_
    rotate_left
    · ((intro u); go_simp; try with_reducible rfl)
    try simp only [Act.put, List.setIfInBounds_toArray, List.set_cons_zero, List.set_cons_succ]
    refine wx_pure (i := 2) (d := some 25) (v := ?_) (by simp only [List.getElem?_toArray, List.getElem?_cons_succ, List.getElem?_cons_zero] <;> rfl) (by rfl) (by kernel_rfl) (by kernel_rfl) (by kernel_rfl) (fun _ _ _ h => h) (by rfl) ?_ ?_
    rotate_left
    · ((intro u); go_simp; try with_reducible rfl)
    try simp only [Act.put, List.setIfInBounds_toArray, List.set_cons_zero, List.set_cons_succ]
    refine wx_pure (i := 3) (d := some 26) (v := ?_) (by simp only [List.getElem?_toArray, List.getElem?_cons_succ, List.getElem?_cons_zero] <;> rfl) (by rfl) (by kernel_rfl) (by kernel_rfl) (by kernel_rfl) (fun _ _ _ h => h) (by rfl) ?_ ?_
    rotate_left
    · ((intro u); go_simp; try with_reducible rfl)
    try simp only [Act.put, List.setIfInBounds_toArray, List.set_cons_zero, List.set_cons_succ]
    refine wx_pure (i := 4) (d := some 27) (v := ?_) (by simp only [List.getElem?_toArray, List.getElem?_cons_succ, List.getElem?_cons_zero] <;> rfl) (by rfl) (by kernel_rfl) (by kernel_rfl) (by kernel_rfl) (fun _ _ _ h => h) (by rfl) ?_ ?_
    rotate_left
    · ((intro u); go_simp; try with_reducible rfl)
    try simp only [Act.put, List.setIfInBounds_toArray, List.set_cons_zero, List.set_cons_succ]
    refine wx_pure (i := 5) (d := some 28) (v := ?_) (by simp only [List.getElem?_toArray, List.getElem?_cons_succ, List.getElem?_cons_zero] <;> rfl) (by rfl) (by kernel_rfl) (by kernel_rfl) (by kernel_rfl) (fun _ _ _ h => h) (by rfl) ?_ ?_
    rotate_left
    · ((intro u); go_simp; try with_reducible rfl)
    try simp only [Act.put, List.setIfInBounds_toArray, List.set_cons_zero, List.set_cons_succ]
    refine wx_pure (i := 6) (d := some 29) (v := ?_) (by simp only [List.getElem?_toArray, List.getElem?_cons_succ, List.getElem?_cons_zero] <;> rfl) (by rfl) (by kernel_rfl) (by kernel_rfl) (by kernel_rfl) (fun _ _ _ h => h) (by rfl) ?_ ?_
    rotate_left
    · ((intro u); go_simp; try with_reducible rfl)
    try simp only [Act.put, List.setIfInBounds_toArray, List.set_cons_zero, List.set_cons_succ]
    refine wx_skip (i := 7) (d := some 30) (by simp only [List.getElem?_toArray, List.getElem?_cons_succ, List.getElem?_cons_zero] <;> rfl) (by rfl) (by kernel_rfl) (by kernel_rfl) (by kernel_rfl) (fun _ _ _ h => h) (by rfl) ?_
    try simp only [Act.put, List.setIfInBounds_toArray, List.set_cons_zero, List.set_cons_succ]
    refine wx_skip (i := 8) (d := some 31) (by simp only [List.getElem?_toArray, List.getElem?_cons_succ, List.getElem?_cons_zero] <;> rfl) (by rfl) (by kernel_rfl) (by kernel_rfl) (by kernel_rfl) (fun _ _ _ h => h) (by rfl) ?_
    try simp only [Act.put, List.setIfInBounds_toArray, List.set_cons_zero, List.set_cons_succ]
    refine wx_skip (i := 9) (d := some 32) (by simp only [List.getElem?_toArray, List.getElem?_cons_succ, List.getElem?_cons_zero] <;> rfl) (by rfl) (by kernel_rfl) (by kernel_rfl) (by kernel_rfl) (fun _ _ _ h => h) (by rfl) ?_
    try simp only [Act.put, List.setIfInBounds_toArray, List.set_cons_zero, List.set_cons_succ]
    refine wx_skip (i := 10) (d := some 33) (by simp only [List.getElem?_toArray, List.getElem?_cons_succ, List.getElem?_cons_zero] <;> rfl) (by rfl) (by kernel_rfl) (by kernel_rfl) (by kernel_rfl) (fun _ _ _ h => h) (by rfl) ?_
    try simp only [Act.put, List.setIfInBounds_toArray, List.set_cons_zero, List.set_cons_succ]
    refine wx_pure (i := 11) (d := some 34) (v := ?_) (by simp only [List.getElem?_toArray, List.getElem?_cons_succ, List.getElem?_cons_zero] <;> rfl) (by rfl) (by kernel_rfl) (by kernel_rfl) (by kernel_rfl) (fun _ _ _ h => h) (by rfl) ?_ ?_
    rotate_left
    · ((intro u); go_simp; try with_reducible rfl)
    try simp only [Act.put, List.setIfInBounds_toArray, List.set_cons_zero, List.set_cons_succ]
    refine wx_pure (i := 12) (d := some 35) (v := ?_) (by simp only [List.getElem?_toArray, List.getElem?_cons_succ, List.getElem?_cons_zero] <;> rfl) (by rfl) (by kernel_rfl) (by kernel_rfl) (by kernel_rfl) (fun _ _ _ h => h) (by rfl) ?_ ?_
    rotate_left
    · ((intro u); go_simp; try with_reducible rfl)
    try simp only [Act.put, List.setIfInBounds_toArray, List.set_cons_zero, List.set_cons_succ]
    refine wx_pure (i := 13) (d := some 36) (v := ?_) (by simp only [List.getElem?_toArray, List.getElem?_cons_succ, List.getElem?_cons_zero] <;> rfl) (by rfl) (by kernel_rfl) (by kernel_rfl) (by kernel_rfl) (fun _ _ _ h => h) (by rfl) ?_ ?_
    rotate_left
    · ((intro u); go_simp; try with_reducible rfl)
    try simp only [Act.put, List.setIfInBounds_toArray, List.set_cons_zero, List.set_cons_succ]
    refine wx_pure (i := 14) (d := some 37) (v := ?_) (by simp only [List.getElem?_toArray, List.getElem?_cons_succ, List.getElem?_cons_zero] <;> rfl) (by rfl) (by kernel_rfl) (by kernel_rfl) (by kernel_rfl) (fun _ _ _ h => h) (by rfl) ?_ ?_
    rotate_left
    · ((intro u); go_simp; try with_reducible rfl)
    try simp only [Act.put, List.setIfInBounds_toArray, List.set_cons_zero, List.set_cons_succ]
    refine wx_pure (i := 15) (d := some 38) (v := ?_) (by simp only [List.getElem?_toArray, List.getElem?_cons_succ, List.getElem?_cons_zero] <;> rfl) (by rfl) (by kernel_rfl) (by kernel_rfl) (by kernel_rfl) (fun _ _ _ h => h) (by rfl) ?_ ?_
    rotate_left
    · ((intro u); go_simp; try with_reducible rfl)
    try simp only [Act.put, List.setIfInBounds_toArray, List.set_cons_zero, List.set_cons_succ]
    refine wx_pure (i := 16) (d := some 39) (v := ?_) (by simp only [List.getElem?_toArray, List.getElem?_cons_succ, List.getElem?_cons_zero] <;> rfl) (by rfl) (by kernel_rfl) (by kernel_rfl) (by kernel_rfl) (fun _ _ _ h => h) (by rfl) ?_ ?_
    rotate_left
    · ((intro u); go_simp; try with_reducible rfl)
    try simp only [Act.put, List.setIfInBounds_toArray, List.set_cons_zero, List.set_cons_succ]
    refine wx_take (i := 17) (d := some 40) (v := ?_) (by simp only [List.getElem?_toArray, List.getElem?_cons_succ, List.getElem?_cons_zero] <;> rfl) (by rfl) (by kernel_rfl) (by kernel_rfl) (by kernel_rfl) (fun _ _ _ h => h) (by rfl) (by kernel_rfl) ?_ ?_
    rotate_left
    · ((intro u hu); obtain ⟨c0, c1, c2, c3, c4, c5, c6, c7, c8⟩ := (hX.a.gn hu).nine; obtain ⟨d0, d1, d2, d3, _⟩ := (hX.t.gn hu).four; obtain ⟨e0, e1, e2, e3, e4, e5, e6, e7, e8⟩ := (hX.k.gn hu).nine; go_simp; try with_reducible rfl)
    try simp only [Act.put, List.setIfInBounds_toArray, List.set_cons_zero, List.set_cons_succ]
    refine wx_pure (i := 18) (d := some 41) (v := ?_) (by simp only [List.getElem?_toArray, List.getElem?_cons_succ, List.getElem?_cons_zero] <;> rfl) (by rfl) (by kernel_rfl) (by kernel_rfl) (by kernel_rfl) (fun _ _ _ h => h) (by rfl) ?_ ?_
    rotate_left
    · ((intro u); go_simp; try with_reducible rfl)
    try simp only [Act.put, List.setIfInBounds_toArray, List.set_cons_zero, List.set_cons_succ]
    refine wx_pure (i := 19) (d := some 42) (v := ?_) (by simp only [List.getElem?_toArray, List.getElem?_cons_succ, List.getElem?_cons_zero] <;> rfl) (by rfl) (by kernel_rfl) (by kernel_rfl) (by kernel_rfl) (fun _ _ _ h => h) (by rfl) ?_ ?_
    rotate_left
    · ((intro u); go_simp; try with_reducible rfl)
    try simp only [Act.put, List.setIfInBounds_toArray, List.set_cons_zero, List.set_cons_succ]
    refine wx_pure (i := 20) (d := some 43) (v := ?_) (by simp only [List.getElem?_toArray, List.getElem?_cons_succ, List.getElem?_cons_zero] <;> rfl) (by rfl) (by kernel_rfl) (by kernel_rfl) (by kernel_rfl) (fun _ _ _ h => h) (by rfl) ?_ ?_
    rotate_left
    · ((intro u); go_simp; try with_reducible rfl)
    try simp only [Act.put, List.setIfInBounds_toArray, List.set_cons_zero, List.set_cons_succ]
    refine wx_pure (i := 21) (d := some 44) (v := ?_) (by simp only [List.getElem?_toArray, List.getElem?_cons_succ, List.getElem?_cons_zero] <;> rfl) (by rfl) (by kernel_rfl) (by kernel_rfl) (by kernel_rfl) (fun _ _ _ h => h) (by rfl) ?_ ?_
    rotate_left
    · ((intro u); go_simp; try with_reducible rfl)
    try simp only [Act.put, List.setIfInBounds_toArray, List.set_cons_zero, List.set_cons_succ]
    refine wx_done (by kernel_rfl) ?_ _
    skip
    go_wp2_with fail
    refine wx_begin (none) [] (by kernel_rfl) (fun u0 hb0' hz0' => ?_)
    replace hX := hX.below hb0'
    clear hb0' hz0'
    refine wx_take (i := 0) (d := some 45) (v := ?_) (by simp only [List.getElem?_toArray, List.getElem?_cons_succ, List.getElem?_cons_zero] <;> rfl) (by rfl) (by kernel_rfl) (by kernel_rfl) (by kernel_rfl) (fun _ _ _ h => h) (by rfl) (by kernel_rfl) ?_ ?_
    rotate_left
    · ((intro u hu); obtain ⟨c0, c1, c2, c3, c4, c5, c6, c7, c8⟩ := (hX.a.gn hu).nine; obtain ⟨d0, d1, d2, d3, _⟩ := (hX.t.gn hu).four; obtain ⟨e0, e1, e2, e3, e4, e5, e6, e7, e8⟩ := (hX.k.gn hu).nine; go_simp; try with_reducible rfl)
    try simp only [Act.put, List.setIfInBounds_toArray, List.set_cons_zero, List.set_cons_succ]
    refine wx_take (i := 2) (d := some 47) (v := ?_) (by simp only [List.getElem?_toArray, List.getElem?_cons_succ, List.getElem?_cons_zero] <;> rfl) (by rfl) (by kernel_rfl) (by kernel_rfl) (by kernel_rfl) (fun _ _ _ h => h) (by rfl) (by kernel_rfl) ?_ ?_
    rotate_left
    · ((intro u hu); obtain ⟨c0, c1, c2, c3, c4, c5, c6, c7, c8⟩ := (hX.a.gn hu).nine; obtain ⟨d0, d1, d2, d3, _⟩ := (hX.t.gn hu).four; obtain ⟨e0, e1, e2, e3, e4, e5, e6, e7, e8⟩ := (hX.k.gn hu).nine; go_simp; try with_reducible rfl)
    try simp only [Act.put, List.setIfInBounds_toArray, List.set_cons_zero, List.set_cons_succ]
    refine wx_one (i := 1) (by simp only [List.getElem?_toArray, List.getElem?_cons_succ, List.getElem?_cons_zero] <;> rfl) (by kernel_rfl) (by rfl) (fun K hK => ?_)
    go_simp
    refine (HT1.out _).mono ?_
    rintro e u1 ⟨rfl, hv1⟩
    refine hK.out _ _ (gbB hv1) ?_
    replace hX := hX.below hv1
    clear hK K hv1
    try simp only [Act.put, List.setIfInBounds_toArray, List.set_cons_zero, List.set_cons_succ]
    refine wx_one (i := 3) (by simp only [List.getElem?_toArray, List.getElem?_cons_succ, List.getElem?_cons_zero] <;> rfl) (by kernel_rfl) (by rfl) (fun K hK => ?_)
    go_simp
    refine (HT2.out _).mono ?_
    rintro e u3 ⟨rfl, hv3⟩
    refine hK.out _ _ (gbB hv3) ?_
    replace hX := hX.below hv3
    clear hK K hv3
    try simp only [Act.put, List.setIfInBounds_toArray, List.set_cons_zero, List.set_cons_succ]
    refine wx_pure (i := 4) (d := some 49) (v := ?_) (by simp only [List.getElem?_toArray, List.getElem?_cons_succ, List.getElem?_cons_zero] <;> rfl) (by rfl) (by kernel_rfl) (by kernel_rfl) (by kernel_rfl) (fun _ _ _ h => h) (by rfl) ?_ ?_
    rotate_left
    · ((intro u); go_simp; try with_reducible rfl)
    try simp only [Act.put, List.setIfInBounds_toArray, List.set_cons_zero, List.set_cons_succ]
    refine wx_pure (i := 5) (d := some 50) (v := ?_) (by simp only [List.getElem?_toArray, List.getElem?_cons_succ, List.getElem?_cons_zero] <;> rfl) (by rfl) (by kernel_rfl) (by kernel_rfl) (by kernel_rfl) (fun _ _ _ h => h) (by rfl) ?_ ?_
    rotate_left
    · ((intro u); go_simp; try with_reducible rfl)
    try simp only [Act.put, List.setIfInBounds_toArray, List.set_cons_zero, List.set_cons_succ]
    refine wx_one (i := 6) (by simp only [List.getElem?_toArray, List.getElem?_cons_succ, List.getElem?_cons_zero] <;> rfl) (by kernel_rfl) (by rfl) (fun K hK => ?_)
    go_simp
    refine (HFD.out _).mono ?_
    rintro e u6 ⟨rfl, hv6⟩
    refine hK.out _ _ (gbB hv6) ?_
    replace hX := hX.below hv6
    clear hK K hv6
    try simp only [Act.put, List.setIfInBounds_toArray, List.set_cons_zero, List.set_cons_succ]
    refine wx_pure (i := 7) (d := some 52) (v := ?_) (by simp only [List.getElem?_toArray, List.getElem?_cons_succ, List.getElem?_cons_zero] <;> rfl) (by rfl) (by kernel_rfl) (by kernel_rfl) (by kernel_rfl) (fun _ _ _ h => h) (by rfl) ?_ ?_
    rotate_left
    · ((intro u); go_simp; try with_reducible rfl)
    try simp only [Act.put, List.setIfInBounds_toArray, List.set_cons_zero, List.set_cons_succ]
    refine wx_pure (i := 8) (d := some 2) (v := ?_) (by simp only [List.getElem?_toArray, List.getElem?_cons_succ, List.getElem?_cons_zero] <;> rfl) (by rfl) (by kernel_rfl) (by kernel_rfl) (by kernel_rfl) (fun _ _ _ h => h) (by rfl) ?_ ?_
    rotate_left
    · ((intro u); go_simp; try with_reducible rfl)
    try simp only [Act.put, List.setIfInBounds_toArray, List.set_cons_zero, List.set_cons_succ]
    refine wx_done (by kernel_rfl) ?_ _
    go_wp2_with fail
    go_ret
    exact ⟨rfl, hX.base⟩
end Go.Proofs.Ytlnflihnmdpilaa
