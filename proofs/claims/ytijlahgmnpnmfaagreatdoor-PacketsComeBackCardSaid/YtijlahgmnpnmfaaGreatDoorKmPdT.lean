/- Packets that are read: packets that are the same. -/
import Derived.Test.YtijlahgmnpnmfaaGreatDoorKmPcV
import Derived.ChangeKeysEq
namespace Go.Proofs.YtijlahgmnpnmfaaGreatDoor
open Go.RowKit
set_option linter.unusedVariables false
set_option linter.unusedSimpArgs false

/-- Two packets with one payload. -/
structure AtS (w : World) (ba bb : Nat) (q : Pk) (A B : Option Addr) (n ca cb : Nat) (u : World) : Prop where
  a : Blk u ba (pkL q (.slice A n ca)) 31
  b : Blk u bb (pkL q (.slice B n cb)) 31
  w : Below w.heap.size w u
theorem AtS.below {w u u' : World} {ba bb : Nat} {q : Pk} {A B : Option Addr} {n ca cb : Nat} (h : AtS w ba bb q A B n ca cb u) (hb : Below u.heap.size u u') : AtS w ba bb q A B n ca cb u' := ⟨h.a.below hb, h.b.below hb, h.w.trans (hb.mono h.w.size)⟩
structure Bp (u : World) (p : Nat) (q : Pk) : Prop where
  blk : Blk u p (pkL q (.slice none 0 0)) 31
theorem row_below {B p : Nat} (u : World) (cs : Array Value) (hB : B ≤ p) (hp : p < u.heap.size) : Below B u (u.setRow p cs) :=
  ⟨rfl, rfl, rfl, by simp [World.setRow], fun k hk => setRow_other _ p k _ (by omega)⟩
theorem Blk.rowB {u : World} {p : Nat} {cs : List Value} {t : TypeId} (h : Blk u p cs t) (B : Nat) (hB : B ≤ p) (cs' : Array Value) : Below B u (u.setRow p cs') := row_below u cs' hB h.lt
theorem Blk.rowO {u : World} {p p' : Nat} {cs ds : List Value} {t t' : TypeId} (h : Blk u p cs t) (k : Blk u p' ds t') (hne : p' ≠ p) (cs' : Array Value) : Blk (u.setRow p cs') p' ds t' := (setRow_other u p p' _ hne).trans k
theorem Blk.rowS {u : World} {p : Nat} {cs : List Value} {t : TypeId} (h : Blk u p cs t) (cs' : List Value) : Blk (u.setRow p cs'.toArray) p cs' t := setRow_heap _ _ _ _ _ _ h
/-- A slice of old memory. -/
structure OldB (w : World) (A : Option Addr) (n cap : Nat) (bs : List Nat) : Prop where
  s : SlB w A n cap bs
theorem OldB.keep {w w' : World} {A : Option Addr} {n cap : Nat} {bs : List Nat} (h : OldB w A n cap bs) (hb : Below w.heap.size w w') : SlB w' A n cap bs := h.s.below hb

set_option maxHeartbeats 1000000 in
set_option maxRecDepth 100000 in
@[go_sem] theorem eq_nine (x0 x1 x2 x3 x4 x5 x6 x7 x8 : Int) (w : World) : (Op.equalIn 10000 55 (.agg #[.int .i64 x0, .int .i64 x1, .int .i64 x2, .int .i64 x3, .int .i64 x4, .int .i64 x5, .int .i64 x6, .int .i64 x7, .int .i64 x8]) (.agg #[.int .i64 x0, .int .i64 x1, .int .i64 x2, .int .i64 x3, .int .i64 x4, .int .i64 x5, .int .i64 x6, .int .i64 x7, .int .i64 x8])).run Tryz.prog w = .ok true w := by
  have hu : Tryz.prog.underlying 55 = some (.array 9 3) := by kernel_rfl
  have hi : Tryz.prog.underlying 3 = some (.int .i64) := by kernel_rfl
  have hs : ∀ w', (sizeOf 3).run Tryz.prog w' = .ok 1 w' := fun w' => by kernel_rfl
  show (Op.equalIn (9999 + 1) _ _ _).run _ _ = _
  have hp : ∀ (i : Nat) (xs : Array Value) (v : Value) (w' : World), xs[i]? = some v → (part 3 xs i).run Tryz.prog w' = .ok v w' := fun i xs v w' h => run_part_plain w' (by kernel_rfl) h
  have he : ∀ (y : Int) (w' : World), (Op.equalIn 9999 3 (.int .i64 y) (.int .i64 y)).run Tryz.prog w' = .ok true w' := fun y w' => by
    rw [show (9999 : Nat) = 9998 + 1 from rfl, run_equalIn_int (h := hi)]; simp
  generalize 9999 = D at he ⊢
  simp only [Op.equalIn, Sem.run_bind, run_underlying hu, Result.andThen_ok, hs]
  simp [Std.Legacy.Range.forIn_eq_forIn_range', Std.Legacy.Range.size, List.range', Sem.run_bind, Result.andThen, hp, he]
set_option maxHeartbeats 1000000 in
set_option maxRecDepth 100000 in
@[go_sem] theorem eq_five (x0 x1 x2 x3 x4 : Bool) (w : World) : (Op.equalIn 10000 56 (.agg #[.bool x0, .bool x1, .bool x2, .bool x3, .bool x4]) (.agg #[.bool x0, .bool x1, .bool x2, .bool x3, .bool x4])).run Tryz.prog w = .ok true w := by
  have hu : Tryz.prog.underlying 56 = some (.array 5 4) := by kernel_rfl
  have hi : Tryz.prog.underlying 4 = some .bool := by kernel_rfl
  have hs : ∀ w', (sizeOf 4).run Tryz.prog w' = .ok 1 w' := fun w' => by kernel_rfl
  show (Op.equalIn (9999 + 1) _ _ _).run _ _ = _
  have hp : ∀ (i : Nat) (xs : Array Value) (v : Value) (w' : World), xs[i]? = some v → (part 4 xs i).run Tryz.prog w' = .ok v w' := fun i xs v w' h => run_part_plain w' (by kernel_rfl) h
  have he : ∀ (y : Bool) (w' : World), (Op.equalIn 9999 4 (.bool y) (.bool y)).run Tryz.prog w' = .ok true w' := fun y w' => by
    rw [show (9999 : Nat) = 9998 + 1 from rfl, run_equalIn_bool' (h := hi)]; simp
  generalize 9999 = D at he ⊢
  simp only [Op.equalIn, Sem.run_bind, run_underlying hu, Result.andThen_ok, hs]
  simp [Std.Legacy.Range.forIn_eq_forIn_range', Std.Legacy.Range.size, List.range', Sem.run_bind, Result.andThen, hp, he]
set_option maxHeartbeats 2000000 in
set_option maxRecDepth 100000 in
theorem same_any (q : Pk) (A B : Option Addr) (n ca cb : Nat) (pl : List Nat) (w : World) (hx : SlB w A n ca pl) (hy : SlB w B n cb pl) (hn : n ≤ 1000) :
    Calls Tryz.prog 7 #[pkV q (.slice A n ca), pkV q (.slice B n cb)] w (GivesV (.bool true) w) := by
  have hX : Hid (AtS w w.heap.size (w.heap.size + 1) q A B n ca cb ((w.alloc (.cells (pkL q (.slice A n ca)).toArray 31)).alloc (.cells (pkL q (.slice B n cb)).toArray 31))) := by
    have h2 := blk2 w (pkL q (.slice A n ca)) (pkL q (.slice B n cb)) 31 31
    have hw := below_two w (.cells (pkL q (.slice A n ca)).toArray 31) (.cells (pkL q (.slice B n cb)).toArray 31)
    exact Lib.hid ⟨h2.1, h2.2, hw⟩
  have hx0 := Lib.hid (OldB.mk hx)
  have hy0 := Lib.hid (OldB.mk hy)
  clear hx hy
  go_enter Tryz.func7, Tryz.ntmps7
  go_wp2_with fail
  refine wb_begin ([w.heap.size, w.heap.size + 1]) [] (by kernel_rfl) (fun u0 hb0' hz0' => ?_)
  replace hX := Lib.hid (hX.out.below hb0')
  have hlt0 := hX.out.b.lt
  have hW := Lib.hid (Below.refl u0.heap.size u0)
  clear hb0' hz0'
  refine wb_take (i := 0) (d := some 7) (v := ?_) (by simp only [List.getElem?_toArray, List.getElem?_cons_succ, List.getElem?_cons_zero] <;> rfl) (by rfl) (by kernel_rfl) (by kernel_rfl) (by kernel_rfl) (fun _ _ _ h => h) (by rfl) (by kernel_rfl) ?_ ?_
  rotate_left
  · ((intro u hu); have L1 := ldPk_run (hX.out.a.kb hu (by simp)); have L2 := ldPk_run (hX.out.b.kb hu (by simp)); go_simp; try with_reducible rfl)
  try simp only [Act.put, List.setIfInBounds_toArray, List.set_cons_zero, List.set_cons_succ]
  refine wb_take (i := 1) (d := some 8) (v := ?_) (by simp only [List.getElem?_toArray, List.getElem?_cons_succ, List.getElem?_cons_zero] <;> rfl) (by rfl) (by kernel_rfl) (by kernel_rfl) (by kernel_rfl) (fun _ _ _ h => h) (by rfl) (by kernel_rfl) ?_ ?_
  rotate_left
  · ((intro u hu); have L1 := ldPk_run (hX.out.a.kb hu (by simp)); have L2 := ldPk_run (hX.out.b.kb hu (by simp)); go_simp; try with_reducible rfl)
  try simp only [Act.put, List.setIfInBounds_toArray, List.set_cons_zero, List.set_cons_succ]
  refine wb_two (i := 2) (k := 3) (by simp only [List.getElem?_toArray, List.getElem?_cons_succ, List.getElem?_cons_zero] <;> rfl) (by simp only [List.getElem?_toArray, List.getElem?_cons_succ, List.getElem?_cons_zero] <;> rfl) (by kernel_rfl) (by rfl) (by rfl) (fun K hK => ?_) (fun K hK => ?_)
  · go_simp
    refine hK.out _ _ (Kb.gb (World.grownBy_alloc _ _ none) (by intro p hp; simp at hp; have := hW.out.size; rcases hp with rfl | rfl; exact ⟨by omega, by simp⟩; exact ⟨by omega, by simp⟩)) ?_
    refine wb_new (cs := zeroPk) (t := 31) (fun u2 hv2 hL2 hz2 => ?_)
    replace hW := Lib.hid (hW.out.trans (hv2.mono hW.out.size))
    try replace hL3 := Lib.hid (hL3.out.below hv2)
    try rw [hz3] at hL2
    replace hL2 := Lib.hid hL2
    clear hK K
    try simp only [Act.put, List.setIfInBounds_toArray, List.set_cons_zero, List.set_cons_succ]
    refine wb_one (i := 3) (by simp only [List.getElem?_toArray, List.getElem?_cons_succ, List.getElem?_cons_zero] <;> rfl) (by kernel_rfl) (by rfl) (fun K hK => ?_)
    go_simp
    refine hK.out _ _ (Kb.gb (World.grownBy_alloc _ _ none) (by intro p hp; simp at hp; have := hW.out.size; rcases hp with rfl | rfl; exact ⟨by omega, by simp⟩; exact ⟨by omega, by simp⟩)) ?_
    refine wb_new (cs := zeroPk) (t := 31) (fun u3 hv3 hL3 hz3 => ?_)
    replace hW := Lib.hid (hW.out.trans (hv3.mono hW.out.size))
    try replace hL2 := Lib.hid (hL2.out.below hv3)
    try rw [hz2] at hL3
    replace hL3 := Lib.hid hL3
    clear hK K
    try simp only [Act.put, List.setIfInBounds_toArray, List.set_cons_zero, List.set_cons_succ]
    refine wb_one (i := 4) (by simp only [List.getElem?_toArray, List.getElem?_cons_succ, List.getElem?_cons_zero] <;> rfl) (by kernel_rfl) (by rfl) (fun K hK => ?_)
    have S := stPk_run (q := q) (v := .slice A n ca) hL2.out rfl rfl
    have hs5 := hL2.out.lt
    go_simp
    refine hK.out _ _ (by intro p hp; simp at hp; rcases hp with rfl | rfl; exact setRow_other _ _ _ _ (by omega); exact setRow_other _ _ _ _ (by omega)) ?_
    replace hW := Lib.hid (hW.out.trans (hL2.out.rowB u0.heap.size (by omega) (pkL q (.slice A n ca)).toArray))
    replace hL3 := Lib.hid (hL2.out.rowO hL3.out (by omega) (pkL q (.slice A n ca)).toArray)
    replace hL2 := Lib.hid (hL2.out.rowS (pkL q (.slice A n ca)))
    clear hK K S hs5
    try simp only [Act.put, List.setIfInBounds_toArray, List.set_cons_zero, List.set_cons_succ]
    refine wb_one (i := 5) (by simp only [List.getElem?_toArray, List.getElem?_cons_succ, List.getElem?_cons_zero] <;> rfl) (by kernel_rfl) (by rfl) (fun K hK => ?_)
    have S := stPk_run (q := q) (v := .slice B n cb) hL3.out rfl rfl
    have hs5 := hL3.out.lt
    go_simp
    refine hK.out _ _ (by intro p hp; simp at hp; rcases hp with rfl | rfl; exact setRow_other _ _ _ _ (by omega); exact setRow_other _ _ _ _ (by omega)) ?_
    replace hW := Lib.hid (hW.out.trans (hL3.out.rowB u0.heap.size (by omega) (pkL q (.slice B n cb)).toArray))
    replace hL2 := Lib.hid (hL3.out.rowO hL2.out (by omega) (pkL q (.slice B n cb)).toArray)
    replace hL3 := Lib.hid (hL3.out.rowS (pkL q (.slice B n cb)))
    clear hK K S hs5
    try simp only [Act.put, List.setIfInBounds_toArray, List.set_cons_zero, List.set_cons_succ]
    refine wb_done (by kernel_rfl) ?_ _
    have hX := Lib.hid (hX.out.below hW.out)
    clear hW
    have P5 : Blk _ _ (pkL q (.slice A n ca)) 31 := hL2.out
    have P6 : Blk _ _ (pkL q (.slice B n cb)) 31 := hL3.out
    have l5 := P5.lt
    have l6 := P6.lt
    have f5 := P5.free 18
    have f6 := P6.free 18
    have c5 := P5.cell (i := 18) rfl
    have c6 := P6.cell (i := 18) rfl
    have Q5 := Bp.mk (show Blk _ _ (pkL q (.slice none 0 0)) _ from (P5.set 18 (.slice none 0 0)).other (a := ⟨_, 18, none⟩) (show u0.heap.size ≠ (u0.heap.size + 1) by omega) (.slice none 0 0))
    have Q6 := Bp.mk (show Blk _ _ (pkL q (.slice none 0 0)) _ from (P6.other (a := ⟨u0.heap.size, 18, none⟩) (show (u0.heap.size + 1) ≠ u0.heap.size by omega) (.slice none 0 0)).set 18 (.slice none 0 0))
    have ka := ((hX.out.a.other (a := ⟨u0.heap.size, 18, none⟩) (show w.heap.size ≠ u0.heap.size by omega) (.slice none 0 0)).other (a := ⟨(u0.heap.size + 1), 18, none⟩) (show w.heap.size ≠ (u0.heap.size + 1) by omega) (.slice none 0 0)).cell (i := 18) (v := .slice A n ca) rfl
    have kb := ((hX.out.b.other (a := ⟨u0.heap.size, 18, none⟩) (show w.heap.size + 1 ≠ u0.heap.size by omega) (.slice none 0 0)).other (a := ⟨(u0.heap.size + 1), 18, none⟩) (show w.heap.size + 1 ≠ (u0.heap.size + 1) by omega) (.slice none 0 0)).cell (i := 18) (v := .slice B n cb) rfl
    have hw2 := Lib.hid ((hX.out.w.setCell (p := ⟨u0.heap.size, 18, none⟩) (by show w.heap.size ≤ u0.heap.size; omega) (.slice none 0 0)).setCell (p := ⟨(u0.heap.size + 1), 18, none⟩) (by show w.heap.size ≤ (u0.heap.size + 1); omega) (.slice none 0 0))
    have HE := Lib.hid (equal_same A B n ca cb pl _ (hx0.out.keep hw2.out) (hy0.out.keep hw2.out) (by omega))
    replace Q5 := Lib.hid Q5
    replace Q6 := Lib.hid Q6
    clear P5 P6 hL2 hL3 hX
    go_wp2_with fail
    refine HE.out.mono ?_
    rintro e u7 ⟨rfl, hv7⟩
    have hw3 := Lib.hid (hw2.out.trans (hv7.mono hw2.out.size))
    obtain ⟨a0, a1, a2, a3, a4, a5, a6, a7, a8, a9, a10, a11, a12, a13, a14, a15, a16, a17, a18⟩ := (Q5.out.blk.below hv7).pk
    obtain ⟨b0, b1, b2, b3, b4, b5, b6, b7, b8, b9, b10, b11, b12, b13, b14, b15, b16, b17, b18⟩ := (Q6.out.blk.below hv7).pk
    clear HE Q5 Q6 ka kb f5 f6 c5 c6 hv7 hw2
    generalize u0.heap.size = z at *
    go_wp2_with fail
    go_ret
    exact ⟨rfl, hw3.out⟩
  · go_simp
    refine hK.out _ _ (Kb.gb (World.grownBy_alloc _ _ none) (by intro p hp; simp at hp; have := hW.out.size; rcases hp with rfl | rfl; exact ⟨by omega, by simp⟩; exact ⟨by omega, by simp⟩)) ?_
    refine wb_new (cs := zeroPk) (t := 31) (fun u3 hv3 hL3 hz3 => ?_)
    replace hW := Lib.hid (hW.out.trans (hv3.mono hW.out.size))
    try replace hL2 := Lib.hid (hL2.out.below hv3)
    try rw [hz2] at hL3
    replace hL3 := Lib.hid hL3
    clear hK K
    try simp only [Act.put, List.setIfInBounds_toArray, List.set_cons_zero, List.set_cons_succ]
    refine wb_one (i := 2) (by simp only [List.getElem?_toArray, List.getElem?_cons_succ, List.getElem?_cons_zero] <;> rfl) (by kernel_rfl) (by rfl) (fun K hK => ?_)
    go_simp
    refine hK.out _ _ (Kb.gb (World.grownBy_alloc _ _ none) (by intro p hp; simp at hp; have := hW.out.size; rcases hp with rfl | rfl; exact ⟨by omega, by simp⟩; exact ⟨by omega, by simp⟩)) ?_
    refine wb_new (cs := zeroPk) (t := 31) (fun u2 hv2 hL2 hz2 => ?_)
    replace hW := Lib.hid (hW.out.trans (hv2.mono hW.out.size))
    try replace hL3 := Lib.hid (hL3.out.below hv2)
    try rw [hz3] at hL2
    replace hL2 := Lib.hid hL2
    clear hK K
    try simp only [Act.put, List.setIfInBounds_toArray, List.set_cons_zero, List.set_cons_succ]
    refine wb_one (i := 4) (by simp only [List.getElem?_toArray, List.getElem?_cons_succ, List.getElem?_cons_zero] <;> rfl) (by kernel_rfl) (by rfl) (fun K hK => ?_)
    have S := stPk_run (q := q) (v := .slice A n ca) hL2.out rfl rfl
    have hs5 := hL2.out.lt
    go_simp
    refine hK.out _ _ (by intro p hp; simp at hp; rcases hp with rfl | rfl; exact setRow_other _ _ _ _ (by omega); exact setRow_other _ _ _ _ (by omega)) ?_
    replace hW := Lib.hid (hW.out.trans (hL2.out.rowB u0.heap.size (by omega) (pkL q (.slice A n ca)).toArray))
    replace hL3 := Lib.hid (hL2.out.rowO hL3.out (by omega) (pkL q (.slice A n ca)).toArray)
    replace hL2 := Lib.hid (hL2.out.rowS (pkL q (.slice A n ca)))
    clear hK K S hs5
    try simp only [Act.put, List.setIfInBounds_toArray, List.set_cons_zero, List.set_cons_succ]
    refine wb_one (i := 5) (by simp only [List.getElem?_toArray, List.getElem?_cons_succ, List.getElem?_cons_zero] <;> rfl) (by kernel_rfl) (by rfl) (fun K hK => ?_)
    have S := stPk_run (q := q) (v := .slice B n cb) hL3.out rfl rfl
    have hs5 := hL3.out.lt
    go_simp
    refine hK.out _ _ (by intro p hp; simp at hp; rcases hp with rfl | rfl; exact setRow_other _ _ _ _ (by omega); exact setRow_other _ _ _ _ (by omega)) ?_
    replace hW := Lib.hid (hW.out.trans (hL3.out.rowB u0.heap.size (by omega) (pkL q (.slice B n cb)).toArray))
    replace hL2 := Lib.hid (hL3.out.rowO hL2.out (by omega) (pkL q (.slice B n cb)).toArray)
    replace hL3 := Lib.hid (hL3.out.rowS (pkL q (.slice B n cb)))
    clear hK K S hs5
    try simp only [Act.put, List.setIfInBounds_toArray, List.set_cons_zero, List.set_cons_succ]
    refine wb_done (by kernel_rfl) ?_ _
    have hX := Lib.hid (hX.out.below hW.out)
    clear hW
    have P5 : Blk _ _ (pkL q (.slice A n ca)) 31 := hL2.out
    have P6 : Blk _ _ (pkL q (.slice B n cb)) 31 := hL3.out
    have l5 := P5.lt
    have l6 := P6.lt
    have f5 := P5.free 18
    have f6 := P6.free 18
    have c5 := P5.cell (i := 18) rfl
    have c6 := P6.cell (i := 18) rfl
    have Q5 := Bp.mk (show Blk _ _ (pkL q (.slice none 0 0)) _ from (P5.set 18 (.slice none 0 0)).other (a := ⟨_, 18, none⟩) (show (u0.heap.size + 1) ≠ u0.heap.size by omega) (.slice none 0 0))
    have Q6 := Bp.mk (show Blk _ _ (pkL q (.slice none 0 0)) _ from (P6.other (a := ⟨(u0.heap.size + 1), 18, none⟩) (show u0.heap.size ≠ (u0.heap.size + 1) by omega) (.slice none 0 0)).set 18 (.slice none 0 0))
    have ka := ((hX.out.a.other (a := ⟨(u0.heap.size + 1), 18, none⟩) (show w.heap.size ≠ (u0.heap.size + 1) by omega) (.slice none 0 0)).other (a := ⟨u0.heap.size, 18, none⟩) (show w.heap.size ≠ u0.heap.size by omega) (.slice none 0 0)).cell (i := 18) (v := .slice A n ca) rfl
    have kb := ((hX.out.b.other (a := ⟨(u0.heap.size + 1), 18, none⟩) (show w.heap.size + 1 ≠ (u0.heap.size + 1) by omega) (.slice none 0 0)).other (a := ⟨u0.heap.size, 18, none⟩) (show w.heap.size + 1 ≠ u0.heap.size by omega) (.slice none 0 0)).cell (i := 18) (v := .slice B n cb) rfl
    have hw2 := Lib.hid ((hX.out.w.setCell (p := ⟨(u0.heap.size + 1), 18, none⟩) (by show w.heap.size ≤ (u0.heap.size + 1); omega) (.slice none 0 0)).setCell (p := ⟨u0.heap.size, 18, none⟩) (by show w.heap.size ≤ u0.heap.size; omega) (.slice none 0 0))
    have HE := Lib.hid (equal_same A B n ca cb pl _ (hx0.out.keep hw2.out) (hy0.out.keep hw2.out) (by omega))
    replace Q5 := Lib.hid Q5
    replace Q6 := Lib.hid Q6
    clear P5 P6 hL2 hL3 hX
    go_wp2_with fail
    refine HE.out.mono ?_
    rintro e u7 ⟨rfl, hv7⟩
    have hw3 := Lib.hid (hw2.out.trans (hv7.mono hw2.out.size))
    obtain ⟨a0, a1, a2, a3, a4, a5, a6, a7, a8, a9, a10, a11, a12, a13, a14, a15, a16, a17, a18⟩ := (Q5.out.blk.below hv7).pk
    obtain ⟨b0, b1, b2, b3, b4, b5, b6, b7, b8, b9, b10, b11, b12, b13, b14, b15, b16, b17, b18⟩ := (Q6.out.blk.below hv7).pk
    clear HE Q5 Q6 ka kb f5 f6 c5 c6 hv7 hw2
    generalize u0.heap.size = z at *
    go_wp2_with fail
    go_ret
    exact ⟨rfl, hw3.out⟩
end Go.Proofs.YtijlahgmnpnmfaaGreatDoor
