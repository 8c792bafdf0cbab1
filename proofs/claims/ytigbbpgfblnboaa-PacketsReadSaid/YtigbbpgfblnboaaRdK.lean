/- Packets that are read: the reference's head. -/
import Derived.Test.YtigbbpgfblnboaaRdJ
namespace Go.Proofs.Ytigbbpgfblnboaa
open Go.RowKit
set_option linter.unusedVariables false
set_option linter.unusedSimpArgs false

theorem results_cell_tmp2 {fn : Func} {p u v : Tmp} {ty : TypeId} (h : fn.results = #[.cell p ty, .tmp u, .tmp v]) (tmps : Array Value) (P : Program) (w : World) :
    (results fn tmps).run P w =
      ((asAddr (tmps.getD p undef)).run P w).andThen fun a w₁ => ((loadVar ty a).run P w₁).andThen fun x w₂ => .ok (.tuple #[x, tmps.getD u undef, tmps.getD v undef]) w₂ := by
  simp only [results, h]
  simp [Sem.run_bind, Result.andThen]
theorem res_pk3 {fn : Func} {p u s : Tmp} (h : fn.results = #[.cell p 45, .tmp u, .tmp s]) (tmps : Array Value) (w : World) (g : Nat) (q : Pk) (v : Value) (hp : tmps.getD p undef = .pointer (some ⟨g, 0, none⟩)) (hg : w.heap[g]? = some (.cells (pkL q v).toArray 45 (0, 0))) (x : Value) (hx : tmps.getD u undef = x) (y : Value) (hy : tmps.getD s undef = y) :
    (results fn tmps).run Try.prog w = .ok (.tuple #[pkV q v, x, y]) w := by
  have hl := run_loadVar_row (P := Try.prog) w g 45 45 (pkL q v).toArray (0, 0) _ hg Try.underlying45 rfl (by kernel_rfl)
  rw [results_cell_tmp2 h, hp, hx, hy]
  simp only [asAddr, Sem.run_pure, Result.andThen_ok, hl]
theorem AtQ.below {w u u' : World} {pb : Nat} {q : Pk} {v : Value} (h : AtQ w pb q v u) (hb : Below u.heap.size u u') : AtQ w pb q v u' := ⟨h.x.below hb, h.r.below hb, h.b.trans (hb.mono h.b.size), h.lt⟩
theorem AtQ.set {w u : World} {pb : Nat} {q q' : Pk} {v v' : Value} (h : AtQ w pb q v u) (i : Nat) (x : Value) (he : (pkL q v).set i x = pkL q' v') : AtQ w pb q' v' (u.setCell ⟨pb, i, none⟩ x) :=
  h.rdp ((RdP.refl h.x).set i x he)
theorem contains3_new (a b c x : Int) (r : Bool) (w : World) (B : Nat) (hB : B = w.heap.size) (hr : r = decide (x = a ∨ x = b ∨ x = c)) :
    Calls Try.prog 83 #[.slice (some ⟨B, 0, none⟩) 3 3, .int .i64 x] (w.alloc (.cells #[.int .i64 a, .int .i64 b, .int .i64 c] 3)) fun e w' => e = .returned (.bool r) ∧ (w.alloc (.cells #[.int .i64 a, .int .i64 b, .int .i64 c] 3)) = w' := by
  subst hB
  exact contains3_any a b c x _ 3 _ (Blk.new w [.int .i64 a, .int .i64 b, .int .i64 c] 3) r hr
theorem index3_new (a b c x k : Int) (w : World) (B : Nat) (hB : B = w.heap.size) (hk : idx3 a b c x = k) :
    Calls Try.prog 84 #[.slice (some ⟨B, 0, none⟩) 3 3, .int .i64 x] (w.alloc (.cells #[.int .i64 a, .int .i64 b, .int .i64 c] 3)) fun e w' => e = .returned (.int .i64 k) ∧ (w.alloc (.cells #[.int .i64 a, .int .i64 b, .int .i64 c] 3)) = w' := by
  subst hB hk
  exact index3_any a b c x _ 3 _ (Blk.new w [.int .i64 a, .int .i64 b, .int .i64 c] 3)
theorem protoN_not {c : Nat} (h : ¬ ((c : Int) = 1 ∨ (c : Int) = 6 ∨ (c : Int) = 17)) : protoN false c = 0 := by
  unfold protoN; simp; (repeat' split) <;> first | rfl | omega
theorem protoN_is {c : Nat} (h : (c : Int) = 1 ∨ (c : Int) = 6 ∨ (c : Int) = 17) : ¬ protoN false c = 0 ∧ protoN false c = (c : Int) := by
  unfold protoN; simp; (repeat' split) <;> omega

set_option maxHeartbeats 2000000 in
set_option maxRecDepth 100000 in
theorem headRead_four (g off n cap : Nat) (bs : List Nat) (w : World) (hS : SlB w (some ⟨g, off, none⟩) n cap bs) (hn : 20 ≤ n) (hn2 : n ≤ 1000) (hb : Byt bs) (hb0 : bs.getD 0 0 = 69) :
    Calls Try.prog 58 #[.slice (some ⟨g, off, none⟩) n cap] w fun e w' => ∃ q' k, e = .returned (.tuple #[pkV q' (.slice none 0 0), .int .i64 k, .int .i64 (headE bs)]) ∧ Below w.heap.size w w' ∧ (headE bs = 0 → q' = headQ bs ∧ k = headN bs) := by
  have hgw : g < w.heap.size := (hS.byte 0 (by omega)).2
  have hcap := hS.2.1
  have hl := Lib.hid hS.len
  have hlb : ¬ bs.length < 20 := by have := hl.out; omega
  have hN := Lib.hid (show headN bs = 20 by unfold headN; rw [if_pos hb0])
  have hHd := Lib.hid (show headE bs = fourE bs by unfold headE; rw [if_neg hlb, if_pos hb0])
  have hi : ¬ (n : Int) < 20 := by omega
  have hi0 : (0 : Int) < n := by omega
  have hi0' : 0 < n := by omega
  have h20 : (20 : Int) ≤ cap := by omega
  have h12 : (12 : Int) ≤ cap := by omega
  have h4 : (4 : Int) ≤ cap := by omega
  have h8 : (8 : Int) ≤ cap := by omega
  have h16 : (16 : Int) ≤ cap := by omega
  have z10 : ¬ cap = 10 := by omega
  have z2 : ¬ cap = 2 := by omega
  have z4 : ¬ cap = 4 := by omega
  have z12 : ¬ cap = 12 := by omega
  have z16 : ¬ cap = 16 := by omega
  have n1 : (1 : Int) < n := by omega
  have n8 : (8 : Int) < n := by omega
  have n9 : (9 : Int) < n := by omega
  have m1 : 1 < n := by omega
  have m8 : 8 < n := by omega
  have m9 : 9 < n := by omega
  have hne : g ≠ w.heap.size + 1 := by omega
  have w10 : IntKind.i64.wrap (nb bs 10 2 : Int) = (nb bs 10 2 : Int) := by have := nb_lt hb 10 2; rw [IntKind.wrap_i64]; omega
  have w2w : IntKind.i64.wrap (nb bs 2 2 : Int) = (nb bs 2 2 : Int) := by have := nb_lt hb 2 2; rw [IntKind.wrap_i64]; omega
  obtain ⟨x8, hx8⟩ : ∃ x : Int, x = (bs.getD 8 0 : Nat) := ⟨_, rfl⟩
  obtain ⟨x9, hx9⟩ : ∃ x : Int, x = (bs.getD 9 0 : Nat) := ⟨_, rfl⟩
  have w8 : IntKind.i64.wrap x8 = x8 := by have := hb.getD 8; rw [IntKind.wrap_i64]; omega
  have w9 : IntKind.i64.wrap x9 = x9 := by have := hb.getD 9; rw [IntKind.wrap_i64]; omega
  replace hx8 := Lib.hid hx8
  replace hx9 := Lib.hid hx9
  obtain ⟨hd, hhd⟩ : ∃ hd, hd = splice (bs.take 20) 10 [0, 0] := ⟨_, rfl⟩
  have hht : Hid ((bs.take 20).length = 20) := Lib.hid (by simp; have := hl.out; omega)
  have hhs : Hid (((bs.take 20).set 10 0).set 11 0 = hd) := Lib.hid (by rw [hhd]; exact set_two (by rw [hht.out]; omega))
  have hhb : Hid (Byt hd) := Lib.hid (by rw [hhd]; exact byt_splice (fun b hb' => hb b (List.mem_of_mem_take hb')) byt_00 _)
  have hE1 := Lib.hid (fourE_sum (bs := bs))
  have hE2 := Lib.hid (fourE_form (bs := bs))
  have hE3 := Lib.hid (fourE_kind (bs := bs))
  rw [← hhd] at hE1 hE2 hE3
  replace hhd := Lib.hid hhd
  have Z1 := Blk.new w zeroP 45
  have hw1 : Below w.heap.size w (w.alloc (.cells #[.bool false, .int .u64 0, .int .u64 0, .bool false, .int .u64 0, .int .u64 0, .int .i64 0, .int .i64 0, .int .i64 0, .int .i64 0, .bool false, .bool false, .bool false, .bool false, .int .i64 0, .int .i64 0, .bool false, .int .i64 0, .slice none 0 0] 45)) := (Below.refl _ _).alloc (Nat.le_refl _) _
  have hw2 : Below w.heap.size w ((w.alloc (.cells #[.bool false, .int .u64 0, .int .u64 0, .bool false, .int .u64 0, .int .u64 0, .int .i64 0, .int .i64 0, .int .i64 0, .int .i64 0, .bool false, .bool false, .bool false, .bool false, .int .i64 0, .int .i64 0, .bool false, .int .i64 0, .slice none 0 0] 45)).alloc (.cells #[.bool false, .int .u64 0, .int .u64 0, .bool false, .int .u64 0, .int .u64 0, .int .i64 0, .int .i64 0, .int .i64 0, .int .i64 0, .bool false, .bool false, .bool false, .bool false, .int .i64 0, .int .i64 0, .bool false, .int .i64 0, .slice none 0 0] 45)) := hw1.alloc (by simp) _
  replace hS := hS.below hw2
  have hQ : AtQ w (w.heap.size + 1) zq (.slice none 0 0) ((w.alloc (.cells #[.bool false, .int .u64 0, .int .u64 0, .bool false, .int .u64 0, .int .u64 0, .int .i64 0, .int .i64 0, .int .i64 0, .int .i64 0, .bool false, .bool false, .bool false, .bool false, .int .i64 0, .int .i64 0, .bool false, .int .i64 0, .slice none 0 0] 45)).alloc (.cells #[.bool false, .int .u64 0, .int .u64 0, .bool false, .int .u64 0, .int .u64 0, .int .i64 0, .int .i64 0, .int .i64 0, .int .i64 0, .bool false, .bool false, .bool false, .bool false, .int .i64 0, .int .i64 0, .bool false, .int .i64 0, .slice none 0 0] 45)) := ⟨by
    have := Blk.new (w.alloc (.cells #[.bool false, .int .u64 0, .int .u64 0, .bool false, .int .u64 0, .int .u64 0, .int .i64 0, .int .i64 0, .int .i64 0, .int .i64 0, .bool false, .bool false, .bool false, .bool false, .int .i64 0, .int .i64 0, .bool false, .int .i64 0, .slice none 0 0] 45)) zeroP 45
    rw [show (w.alloc (.cells #[.bool false, .int .u64 0, .int .u64 0, .bool false, .int .u64 0, .int .u64 0, .int .i64 0, .int .i64 0, .int .i64 0, .int .i64 0, .bool false, .bool false, .bool false, .bool false, .int .i64 0, .int .i64 0, .bool false, .int .i64 0, .slice none 0 0] 45)).heap.size = w.heap.size + 1 by simp] at this
    exact this, Z1.alloc _, hw2, by omega⟩
  obtain ⟨c0, _⟩ := hS.byte 0 (by omega)
  rw [Nat.add_zero, hb0] at c0
  replace hb0 := Lib.hid hb0
  have HC := Lib.hid (cloneB_any (some ⟨g, off, none⟩) 20 cap (bs.take 20) _ (hS.head 20 hn) (by omega))
  clear Z1 hw1 hw2
  replace hb := Lib.hid hb
  go_enter Try.func58, Try.ntmps58
  go_wp2_with fail
  refine HC.out.mono ?_
  rintro e u1 ⟨v1, rfl, o1, hv1⟩
  obtain ⟨gh, ch, rfl, hS1⟩ := o1.form (by rw [hht.out]; omega)
  rw [hht.out] at o1 hS1 ⊢
  have a1 := o1.atB
  have o2 := (o1.setB 10 0 (by omega)).setB 11 0 (by omega)
  rw [hhs.out] at o2
  have c10 := o1.cellB 10 (by omega)
  have c11 := o1.cellB 11 (by omega)
  have f10 := o1.freeB 10
  have f11 := o1.freeB 11
  have hB2 := (hv1.setCell (p := ⟨gh, 10, none⟩) a1.1 (.int .u8 (0 : Nat))).setCell (p := ⟨gh, 11, none⟩) a1.1 (.int .u8 (0 : Nat))
  replace hS := hS.below hB2
  replace hQ := hQ.below hB2
  have hch := hS1.2.1
  have i10 : (10 : Int) < 20 := by omega
  clear HC o1 hS1 hv1 c0 hB2
  replace hS := Lib.hid hS
  replace hQ := Lib.hid hQ
  replace hS1 := Lib.hid o2.cap.2.2
  clear o2
  go_wp2_with fail
  refine wb_begin ([]) [] (by kernel_rfl) (fun u0 hb0' hz0' => ?_)
  replace hS := Lib.hid (hS.out.below hb0')
  replace hQ := Lib.hid (hQ.out.below hb0')
  replace hS1 := Lib.hid (hS1.out.below hb0')
  clear hb0' hz0'
  refine wb_pure (i := 0) (d := some 25) (v := ?_) (by simp only [List.getElem?_toArray, List.getElem?_cons_succ, List.getElem?_cons_zero] <;> rfl) (by rfl) (by kernel_rfl) (by kernel_rfl) (by kernel_rfl) (fun _ _ _ h => h) (by rfl) ?_ ?_
  rotate_left
  · ((intro u); go_simp; try with_reducible rfl)
  try simp only [Act.put, List.setIfInBounds_toArray, List.set_cons_zero, List.set_cons_succ]
  refine wb_pure (i := 2) (d := some 27) (v := ?_) (by simp only [List.getElem?_toArray, List.getElem?_cons_succ, List.getElem?_cons_zero] <;> rfl) (by rfl) (by kernel_rfl) (by kernel_rfl) (by kernel_rfl) (fun _ _ _ h => h) (by rfl) ?_ ?_
  rotate_left
  · ((intro u); go_simp; try with_reducible rfl)
  try simp only [Act.put, List.setIfInBounds_toArray, List.set_cons_zero, List.set_cons_succ]
  refine wb_pure (i := 3) (d := some 28) (v := ?_) (by simp only [List.getElem?_toArray, List.getElem?_cons_succ, List.getElem?_cons_zero] <;> rfl) (by rfl) (by kernel_rfl) (by kernel_rfl) (by kernel_rfl) (fun _ _ _ h => h) (by rfl) ?_ ?_
  rotate_left
  · ((intro u); go_simp; try with_reducible rfl)
  try simp only [Act.put, List.setIfInBounds_toArray, List.set_cons_zero, List.set_cons_succ]
  refine wb_one (i := 1) (by simp only [List.getElem?_toArray, List.getElem?_cons_succ, List.getElem?_cons_zero] <;> rfl) (by kernel_rfl) (by rfl) (fun K hK => ?_)
  go_simp
  refine (checkSumOf_any (some ⟨gh, 0, none⟩) 20 ch hd _ hS1.out (by omega) hhb.out).mono ?_
  rintro e u1 ⟨rfl, hv1⟩
  refine hK.out _ _ (fun p hp => by cases hp) ?_
  replace hS := Lib.hid (hS.out.below hv1)
  replace hQ := Lib.hid (hQ.out.below hv1)
  clear hK K hv1
  try simp only [Act.put, List.setIfInBounds_toArray, List.set_cons_zero, List.set_cons_succ]
  refine wb_one (i := 4) (by simp only [List.getElem?_toArray, List.getElem?_cons_succ, List.getElem?_cons_zero] <;> rfl) (by kernel_rfl) (by rfl) (fun K hK => ?_)
  go_simp
  refine (num_part _ _ _ _ _ bs _ hS.out 10 2 (by omega) (by omega) (by omega) hb.out).mono ?_
  rintro e u4 ⟨rfl, hv4⟩
  refine hK.out _ _ (fun p hp => by cases hp) ?_
  replace hS := Lib.hid (hS.out.below hv4)
  replace hQ := Lib.hid (hQ.out.below hv4)
  try replace hS1 := Lib.hid (hS1.out.below hv4)
  clear hK K hv4
  try simp only [Act.put, List.setIfInBounds_toArray, List.set_cons_zero, List.set_cons_succ]
  refine wb_pure (i := 5) (d := some 30) (v := ?_) (by simp only [List.getElem?_toArray, List.getElem?_cons_succ, List.getElem?_cons_zero] <;> rfl) (by rfl) (by kernel_rfl) (by kernel_rfl) (by kernel_rfl) (fun _ _ _ h => h) (by rfl) ?_ ?_
  rotate_left
  · ((intro u); go_simp; try with_reducible rfl)
  try simp only [Act.put, List.setIfInBounds_toArray, List.set_cons_zero, List.set_cons_succ]
  refine wb_pure (i := 6) (d := some 31) (v := ?_) (by simp only [List.getElem?_toArray, List.getElem?_cons_succ, List.getElem?_cons_zero] <;> rfl) (by rfl) (by kernel_rfl) (by kernel_rfl) (by kernel_rfl) (fun _ _ _ h => h) (by rfl) ?_ ?_
  rotate_left
  · ((intro u); go_simp; try with_reducible rfl)
  try simp only [Act.put, List.setIfInBounds_toArray, List.set_cons_zero, List.set_cons_succ]
  refine wb_done (by kernel_rfl) ?_ _
  generalize sumR hd = S at hE1 hE2 hE3 ⊢
  by_cases hs : S = (nb bs 10 2 : Int)
  · replace hE2 := Lib.hid (hE2.out hs)
    replace hE3 := Lib.hid (hE3.out hs)
    clear hE1
    go_wp2_with fail
    refine (num_part _ _ _ _ _ bs _ hS.out 2 2 (by omega) (by omega) (by omega) hb.out).mono ?_
    rintro e w1 ⟨rfl, hv1⟩
    replace hS := Lib.hid (hS.out.below hv1)
    replace hQ := Lib.hid (hQ.out.below hv1)
    clear hv1
    obtain ⟨c1, hgl⟩ := hS.out.byte 1 (by omega)
    obtain ⟨X2, hX2⟩ : ∃ X : Int, X = (nb bs 2 2 : Nat) := ⟨_, rfl⟩
    rw [← hX2] at w2w ⊢
    replace hX2 := Lib.hid hX2
    by_cases k1 : X2 = n
    · have k1' := Lib.hid (show nb bs 2 2 = bs.length by have := hX2.out; have := hl.out; omega)
      subst k1
      have HZ := Lib.hid (num_part _ _ _ _ (cap - 4) bs _ hS.out 4 4 (by omega) (by omega) (by omega) hb.out)
      obtain ⟨X4, hX4⟩ : ∃ X : Int, X = (nb bs 4 4 : Nat) := ⟨_, rfl⟩
      rw [← hX4] at HZ
      replace hX4 := Lib.hid hX4
      by_cases k3 : X4 = 0
      · have k3' := Lib.hid (show nb bs 4 4 = 0 by have := hX4.out; omega)
        subst k3
        obtain ⟨x1, hx1⟩ : ∃ x : Int, x = (bs.getD 1 0 : Nat) := ⟨_, rfl⟩
        replace hx1 := Lib.hid hx1
        go_wp2_with fail
        refine HZ.out.mono ?_
        rintro e w2 ⟨rfl, hv2⟩
        replace hS := Lib.hid (hS.out.below hv2)
        replace hQ := Lib.hid (hQ.out.below hv2)
        clear hv2 HZ c1
        obtain ⟨c1, _⟩ := hS.out.byte 1 (by omega)
        rw [← hx1.out] at c1
        by_cases k2 : x1 = 0
        · have k2' := Lib.hid (show bs.getD 1 0 = 0 by have := hx1.out; omega)
          subst k2
          replace hE3 := Lib.hid (hE3.out (by rintro (h | h | h); exact h k1'.out; exact h k2'.out; exact h k3'.out))
          go_wp2_with fail
          clear c1
          refine wb_begin ([]) [] (by kernel_rfl) (fun u0 hb0' hz0' => ?_)
          replace hS := Lib.hid (hS.out.below hb0')
          replace hQ := Lib.hid (hQ.out.below hb0')
          clear hb0' hz0'
          refine wb_pure (i := 0) (d := some 53) (v := ?_) (by simp only [List.getElem?_toArray, List.getElem?_cons_succ, List.getElem?_cons_zero] <;> rfl) (by rfl) (by kernel_rfl) (by kernel_rfl) (by kernel_rfl) (fun _ _ _ h => h) (by rfl) ?_ ?_
          rotate_left
          · ((intro u); go_simp; try with_reducible rfl)
          try simp only [Act.put, List.setIfInBounds_toArray, List.set_cons_zero, List.set_cons_succ]
          refine wb_pure (i := 1) (d := some 54) (v := ?_) (by simp only [List.getElem?_toArray, List.getElem?_cons_succ, List.getElem?_cons_zero] <;> rfl) (by rfl) (by kernel_rfl) (by kernel_rfl) (by kernel_rfl) (fun _ _ _ h => h) (by rfl) ?_ ?_
          rotate_left
          · ((intro u); go_simp; try with_reducible rfl)
          try simp only [Act.put, List.setIfInBounds_toArray, List.set_cons_zero, List.set_cons_succ]
          refine wb_pure (i := 4) (d := some 57) (v := ?_) (by simp only [List.getElem?_toArray, List.getElem?_cons_succ, List.getElem?_cons_zero] <;> rfl) (by rfl) (by kernel_rfl) (by kernel_rfl) (by kernel_rfl) (fun _ _ _ h => h) (by rfl) ?_ ?_
          rotate_left
          · ((intro u); go_simp; try with_reducible rfl)
          try simp only [Act.put, List.setIfInBounds_toArray, List.set_cons_zero, List.set_cons_succ]
          refine wb_pure (i := 5) (d := some 58) (v := ?_) (by simp only [List.getElem?_toArray, List.getElem?_cons_succ, List.getElem?_cons_zero] <;> rfl) (by rfl) (by kernel_rfl) (by kernel_rfl) (by kernel_rfl) (fun _ _ _ h => h) (by rfl) ?_ ?_
          rotate_left
          · ((intro u); go_simp; try with_reducible rfl)
          try simp only [Act.put, List.setIfInBounds_toArray, List.set_cons_zero, List.set_cons_succ]
          refine wb_one (i := 2) (by simp only [List.getElem?_toArray, List.getElem?_cons_succ, List.getElem?_cons_zero] <;> rfl) (by kernel_rfl) (by rfl) (fun K hK => ?_)
          go_simp
          refine (num_part _ _ _ _ _ bs _ hS.out 12 4 (by omega) (by omega) (by omega) hb.out).mono ?_
          rintro e u2 ⟨rfl, hv2⟩
          refine hK.out _ _ (fun p hp => by cases hp) ?_
          replace hS := Lib.hid (hS.out.below hv2)
          replace hQ := Lib.hid (hQ.out.below hv2)
          clear hK K hv2
          try simp only [Act.put, List.setIfInBounds_toArray, List.set_cons_zero, List.set_cons_succ]
          refine wb_pure (i := 3) (d := some 56) (v := ?_) (by simp only [List.getElem?_toArray, List.getElem?_cons_succ, List.getElem?_cons_zero] <;> rfl) (by rfl) (by kernel_rfl) (by kernel_rfl) (by kernel_rfl) (fun _ _ _ h => h) (by rfl) ?_ ?_
          rotate_left
          · ((intro u); go_simp; try with_reducible rfl)
          try simp only [Act.put, List.setIfInBounds_toArray, List.set_cons_zero, List.set_cons_succ]
          refine wb_pure (i := 8) (d := some 61) (v := ?_) (by simp only [List.getElem?_toArray, List.getElem?_cons_succ, List.getElem?_cons_zero] <;> rfl) (by rfl) (by kernel_rfl) (by kernel_rfl) (by kernel_rfl) (fun _ _ _ h => h) (by rfl) ?_ ?_
          rotate_left
          · ((intro u); go_simp; try with_reducible rfl)
          try simp only [Act.put, List.setIfInBounds_toArray, List.set_cons_zero, List.set_cons_succ]
          refine wb_one (i := 6) (by simp only [List.getElem?_toArray, List.getElem?_cons_succ, List.getElem?_cons_zero] <;> rfl) (by kernel_rfl) (by rfl) (fun K hK => ?_)
          go_simp
          refine (num_part _ _ _ _ _ bs _ hS.out 16 4 (by omega) (by omega) (by omega) hb.out).mono ?_
          rintro e u6 ⟨rfl, hv6⟩
          refine hK.out _ _ (fun p hp => by cases hp) ?_
          replace hS := Lib.hid (hS.out.below hv6)
          replace hQ := Lib.hid (hQ.out.below hv6)
          clear hK K hv6
          try simp only [Act.put, List.setIfInBounds_toArray, List.set_cons_zero, List.set_cons_succ]
          refine wb_pure (i := 7) (d := some 60) (v := ?_) (by simp only [List.getElem?_toArray, List.getElem?_cons_succ, List.getElem?_cons_zero] <;> rfl) (by rfl) (by kernel_rfl) (by kernel_rfl) (by kernel_rfl) (fun _ _ _ h => h) (by rfl) ?_ ?_
          rotate_left
          · ((intro u); go_simp; try with_reducible rfl)
          try simp only [Act.put, List.setIfInBounds_toArray, List.set_cons_zero, List.set_cons_succ]
          refine wb_one (i := 9) (by simp only [List.getElem?_toArray, List.getElem?_cons_succ, List.getElem?_cons_zero] <;> rfl) (by kernel_rfl) (by rfl) (fun K hK => ?_)
          have f0 := hQ.out.x.free 0
          have c0 := hQ.out.x.cell (i := 0) rfl
          have f1 := hQ.out.x.free 1
          have c1 := hQ.out.x.cell (i := 1) rfl
          have f2 := hQ.out.x.free 2
          have c2 := hQ.out.x.cell (i := 2) rfl
          have f3 := hQ.out.x.free 3
          have c3 := hQ.out.x.cell (i := 3) rfl
          have f4 := hQ.out.x.free 4
          have c4 := hQ.out.x.cell (i := 4) rfl
          have f5 := hQ.out.x.free 5
          have c5 := hQ.out.x.cell (i := 5) rfl
          go_simp
          refine hK.out _ _ (fun p hp => by cases hp) ?_
          replace hQ := Lib.hid (((hQ.out.set (q' := { zq with fs := false }) 0 (.bool false) rfl).set (q' := { zq with fs := false, fh := 0 }) 1 (.int .u64 0) rfl).set (q' := { zq with fs := false, fh := 0, fl := nb bs 12 4 }) 2 (.int .u64 (nb bs 12 4)) rfl)
          replace hS := Lib.hid (((hS.out.setPk hne 0 (.bool false)).setPk hne 1 (.int .u64 0)).setPk hne 2 (.int .u64 (nb bs 12 4)))
          clear hK K f0 c0 f1 c1 f2 c2
          try simp only [Act.put, List.setIfInBounds_toArray, List.set_cons_zero, List.set_cons_succ]
          refine wb_pure (i := 10) (d := some 62) (v := ?_) (by simp only [List.getElem?_toArray, List.getElem?_cons_succ, List.getElem?_cons_zero] <;> rfl) (by rfl) (by kernel_rfl) (by kernel_rfl) (by kernel_rfl) (fun _ _ _ h => h) (by rfl) ?_ ?_
          rotate_left
          · ((intro u); go_simp; try with_reducible rfl)
          try simp only [Act.put, List.setIfInBounds_toArray, List.set_cons_zero, List.set_cons_succ]
          refine wb_one (i := 11) (by simp only [List.getElem?_toArray, List.getElem?_cons_succ, List.getElem?_cons_zero] <;> rfl) (by kernel_rfl) (by rfl) (fun K hK => ?_)
          go_simp
          refine hK.out _ _ (fun p hp => by cases hp) ?_
          replace hQ := Lib.hid (((hQ.out.set (q' := { zq with fs := false, fh := 0, fl := nb bs 12 4, ts := false }) 3 (.bool false) rfl).set (q' := { zq with fs := false, fh := 0, fl := nb bs 12 4, ts := false, th := 0 }) 4 (.int .u64 0) rfl).set (q' := { zq with fs := false, fh := 0, fl := nb bs 12 4, ts := false, th := 0, tl := nb bs 16 4 }) 5 (.int .u64 (nb bs 16 4)) rfl)
          replace hS := Lib.hid (((hS.out.setPk hne 3 (.bool false)).setPk hne 4 (.int .u64 0)).setPk hne 5 (.int .u64 (nb bs 16 4)))
          clear hK K f3 c3 f4 c4 f5 c5
          try simp only [Act.put, List.setIfInBounds_toArray, List.set_cons_zero, List.set_cons_succ]
          refine wb_done (by kernel_rfl) ?_ _
          go_wp2_with fail
          refine wb_begin ([g]) [] (by kernel_rfl) (fun u0 hb0' hz0' => ?_)
          replace hS := Lib.hid (hS.out.below hb0')
          replace hQ := Lib.hid (hQ.out.below hb0')
          clear hb0' hz0'
          obtain ⟨c8', _⟩ := hS.out.byte 8 (by omega)
          obtain ⟨c9', _⟩ := hS.out.byte 9 (by omega)
          rw [← hx8.out] at c8'
          rw [← hx9.out] at c9'
          refine wb_pure (i := 0) (d := some 63) (v := ?_) (by simp only [List.getElem?_toArray, List.getElem?_cons_succ, List.getElem?_cons_zero] <;> rfl) (by rfl) (by kernel_rfl) (by kernel_rfl) (by kernel_rfl) (fun _ _ _ h => h) (by rfl) ?_ ?_
          rotate_left
          · ((intro u); go_simp; try with_reducible rfl)
          try simp only [Act.put, List.setIfInBounds_toArray, List.set_cons_zero, List.set_cons_succ]
          refine wb_pure (i := 1) (d := some 64) (v := ?_) (by simp only [List.getElem?_toArray, List.getElem?_cons_succ, List.getElem?_cons_zero] <;> rfl) (by rfl) (by kernel_rfl) (by kernel_rfl) (by kernel_rfl) (fun _ _ _ h => h) (by rfl) ?_ ?_
          rotate_left
          · ((intro u); go_simp; try with_reducible rfl)
          try simp only [Act.put, List.setIfInBounds_toArray, List.set_cons_zero, List.set_cons_succ]
          refine wb_take (i := 2) (d := some 65) (v := ?_) (by simp only [List.getElem?_toArray, List.getElem?_cons_succ, List.getElem?_cons_zero] <;> rfl) (by rfl) (by kernel_rfl) (by kernel_rfl) (by kernel_rfl) (fun _ _ _ h => h) (by rfl) (by kernel_rfl) ?_ ?_
          rotate_left
          · ((intro u hu); have k8 := Kb.cellB hu (by simp) c8'; have k9 := Kb.cellB hu (by simp) c9'; go_simp; try with_reducible rfl)
          try simp only [Act.put, List.setIfInBounds_toArray, List.set_cons_zero, List.set_cons_succ]
          refine wb_pure (i := 3) (d := some 66) (v := ?_) (by simp only [List.getElem?_toArray, List.getElem?_cons_succ, List.getElem?_cons_zero] <;> rfl) (by rfl) (by kernel_rfl) (by kernel_rfl) (by kernel_rfl) (fun _ _ _ h => h) (by rfl) ?_ ?_
          rotate_left
          · ((intro u); go_simp; try with_reducible rfl)
          try simp only [Act.put, List.setIfInBounds_toArray, List.set_cons_zero, List.set_cons_succ]
          refine wb_pure (i := 4) (d := some 67) (v := ?_) (by simp only [List.getElem?_toArray, List.getElem?_cons_succ, List.getElem?_cons_zero] <;> rfl) (by rfl) (by kernel_rfl) (by kernel_rfl) (by kernel_rfl) (fun _ _ _ h => h) (by rfl) ?_ ?_
          rotate_left
          · ((intro u); go_simp; try with_reducible rfl)
          try simp only [Act.put, List.setIfInBounds_toArray, List.set_cons_zero, List.set_cons_succ]
          refine wb_pure (i := 5) (d := some 68) (v := ?_) (by simp only [List.getElem?_toArray, List.getElem?_cons_succ, List.getElem?_cons_zero] <;> rfl) (by rfl) (by kernel_rfl) (by kernel_rfl) (by kernel_rfl) (fun _ _ _ h => h) (by rfl) ?_ ?_
          rotate_left
          · ((intro u); go_simp; try with_reducible rfl)
          try simp only [Act.put, List.setIfInBounds_toArray, List.set_cons_zero, List.set_cons_succ]
          refine wb_take (i := 6) (d := some 69) (v := ?_) (by simp only [List.getElem?_toArray, List.getElem?_cons_succ, List.getElem?_cons_zero] <;> rfl) (by rfl) (by kernel_rfl) (by kernel_rfl) (by kernel_rfl) (fun _ _ _ h => h) (by rfl) (by kernel_rfl) ?_ ?_
          rotate_left
          · ((intro u hu); have k8 := Kb.cellB hu (by simp) c8'; have k9 := Kb.cellB hu (by simp) c9'; go_simp; try with_reducible rfl)
          try simp only [Act.put, List.setIfInBounds_toArray, List.set_cons_zero, List.set_cons_succ]
          refine wb_pure (i := 7) (d := some 70) (v := ?_) (by simp only [List.getElem?_toArray, List.getElem?_cons_succ, List.getElem?_cons_zero] <;> rfl) (by rfl) (by kernel_rfl) (by kernel_rfl) (by kernel_rfl) (fun _ _ _ h => h) (by rfl) ?_ ?_
          rotate_left
          · ((intro u); go_simp; try with_reducible rfl)
          try simp only [Act.put, List.setIfInBounds_toArray, List.set_cons_zero, List.set_cons_succ]
          refine wb_pure (i := 8) (d := some 71) (v := ?_) (by simp only [List.getElem?_toArray, List.getElem?_cons_succ, List.getElem?_cons_zero] <;> rfl) (by rfl) (by kernel_rfl) (by kernel_rfl) (by kernel_rfl) (fun _ _ _ h => h) (by rfl) ?_ ?_
          rotate_left
          · ((intro u); go_simp; try with_reducible rfl)
          try simp only [Act.put, List.setIfInBounds_toArray, List.set_cons_zero, List.set_cons_succ]
          refine wb_one (i := 9) (by simp only [List.getElem?_toArray, List.getElem?_cons_succ, List.getElem?_cons_zero] <;> rfl) (by kernel_rfl) (by rfl) (fun K hK => ?_)
          have f6 := hQ.out.x.free 6
          have c6 := hQ.out.x.cell (i := 6) rfl
          go_simp
          refine hK.out _ _ (fun p hp => by simp at hp; subst hp; exact Below.heap_setCell _ _ _ _ hne) ?_
          replace hQ := Lib.hid (hQ.out.set (q' := ({ zq with fs := false, fh := 0, fl := nb bs 12 4, ts := false, th := 0, tl := nb bs 16 4, hops := x8 } : Pk)) 6 (.int .i64 x8) rfl)
          replace hS := Lib.hid (hS.out.setPk hne 6 (.int .i64 x8))
          clear hK K f6 c6
          try simp only [Act.put, List.setIfInBounds_toArray, List.set_cons_zero, List.set_cons_succ]
          refine wb_pure (i := 10) (d := some 72) (v := ?_) (by simp only [List.getElem?_toArray, List.getElem?_cons_succ, List.getElem?_cons_zero] <;> rfl) (by rfl) (by kernel_rfl) (by kernel_rfl) (by kernel_rfl) (fun _ _ _ h => h) (by rfl) ?_ ?_
          rotate_left
          · ((intro u); go_simp; try with_reducible rfl)
          try simp only [Act.put, List.setIfInBounds_toArray, List.set_cons_zero, List.set_cons_succ]
          refine wb_one (i := 11) (by simp only [List.getElem?_toArray, List.getElem?_cons_succ, List.getElem?_cons_zero] <;> rfl) (by kernel_rfl) (by rfl) (fun K hK => ?_)
          have f7 := hQ.out.x.free 7
          have c7 := hQ.out.x.cell (i := 7) rfl
          go_simp
          refine hK.out _ _ (fun p hp => by simp at hp; subst hp; exact Below.heap_setCell _ _ _ _ hne) ?_
          replace hQ := Lib.hid (hQ.out.set (q' := ({ zq with fs := false, fh := 0, fl := nb bs 12 4, ts := false, th := 0, tl := nb bs 16 4, hops := x8, proto := x9 } : Pk)) 7 (.int .i64 x9) rfl)
          replace hS := Lib.hid (hS.out.setPk hne 7 (.int .i64 x9))
          clear hK K f7 c7
          try simp only [Act.put, List.setIfInBounds_toArray, List.set_cons_zero, List.set_cons_succ]
          refine wb_done (by kernel_rfl) ?_ _
          clear c8' c9'
          replace hQ := Lib.hid (hQ.out.below ((Below.refl _ _).alloc (Nat.le_refl _) (.cells #[.int .i64 1, .int .i64 6, .int .i64 17] 3)))
          have k7 := hQ.out.x.cell (i := 7) (v := .int .i64 x9) rfl
          have HC := Lib.hid (fun r w' B h => contains3_new 1 6 17 x9 r w' B h)
          cases hr : decide (x9 = 1 ∨ x9 = 6 ∨ x9 = 17)
          · have hE := Lib.hid (show headE bs = 4 by rw [hHd.out, hE3.out, if_pos (protoN_not (c := bs.getD 9 0) (by rw [← hx9.out]; simpa using hr))])
            clear hE2 hE3
            replace hr := Lib.hid hr.symm
            go_wp2_with fail
            refine (HC.out false _ _ (by simp [World.setCell]) hr.out).mono ?_
            rintro e w3 ⟨rfl, rfl⟩
            clear HC k7
            have L := ldPk_run hQ.out.x
            have S := stPk_run (q := ({ zq with fs := false, fh := 0, fl := nb bs 12 4, ts := false, th := 0, tl := nb bs 16 4, hops := x8, proto := x9 } : Pk)) (v := .slice none 0 0) hQ.out.r rfl rfl
            go_wp2_with fail
            refine bodyPost_ret (v := .tuple #[pkV (({ zq with fs := false, fh := 0, fl := nb bs 12 4, ts := false, th := 0, tl := nb bs 16 4, hops := x8, proto := x9 } : Pk)) (.slice none 0 0), .int .i64 0, .int .i64 4]) (res_pk3 (fn := Try.f58) rfl _ _ w.heap.size (({ zq with fs := false, fh := 0, fl := nb bs 12 4, ts := false, th := 0, tl := nb bs 16 4, hops := x8, proto := x9 } : Pk)) (.slice none 0 0) rfl (setRow_heap _ _ _ _ _ _ hQ.out.r) (.int .i64 0) rfl (.int .i64 4) rfl) rfl ⟨_, 0, by rw [hE.out], hQ.out.fin _, fun h => by rw [hE.out] at h; cases h⟩
          · have hpn := protoN_is (c := bs.getD 9 0) (by rw [← hx9.out]; simpa using hr)
            have hE := Lib.hid (show headE bs = 0 by rw [hHd.out, hE3.out, if_neg hpn.1])
            have hG := Lib.hid (show ({ zq with fs := false, fh := 0, fl := nb bs 12 4, ts := false, th := 0, tl := nb bs 16 4, hops := x8, proto := x9 } : Pk) = headQ bs by unfold headQ; rw [if_pos hb0.out]; unfold q4; rw [hpn.2, ← hx9.out, ← hx8.out]; rfl)
            clear hE2 hE3 hpn
            replace hr := Lib.hid hr.symm
            go_wp2_with fail
            refine (HC.out true _ _ (by simp [World.setCell]) hr.out).mono ?_
            rintro e w3 ⟨rfl, rfl⟩
            clear HC k7
            have L := ldPk_run hQ.out.x
            have S := stPk_run (q := ({ zq with fs := false, fh := 0, fl := nb bs 12 4, ts := false, th := 0, tl := nb bs 16 4, hops := x8, proto := x9 } : Pk)) (v := .slice none 0 0) hQ.out.r rfl rfl
            go_wp2_with fail
            refine bodyPost_ret (v := .tuple #[pkV (({ zq with fs := false, fh := 0, fl := nb bs 12 4, ts := false, th := 0, tl := nb bs 16 4, hops := x8, proto := x9 } : Pk)) (.slice none 0 0), .int .i64 20, .int .i64 0]) (res_pk3 (fn := Try.f58) rfl _ _ w.heap.size (({ zq with fs := false, fh := 0, fl := nb bs 12 4, ts := false, th := 0, tl := nb bs 16 4, hops := x8, proto := x9 } : Pk)) (.slice none 0 0) rfl (setRow_heap _ _ _ _ _ _ hQ.out.r) (.int .i64 20) rfl (.int .i64 0) rfl) rfl ⟨_, 20, by rw [hE.out], hQ.out.fin _, fun _ => ⟨hG.out, by rw [hN.out]; rfl⟩⟩
        · have hE := Lib.hid (hHd.out.trans (hE2.out (.inr (.inl (by have := hx1.out; omega)))))
          have k2p : 0 < x1 := by have := hx1.out; omega
          clear hE2 hE3
          have L := ldPk_run hQ.out.x
          have S := stPk_run (q := zq) (v := .slice none 0 0) hQ.out.r rfl rfl
          go_wp2_with fail
          refine bodyPost_ret (v := .tuple #[pkV (zq) (.slice none 0 0), .int .i64 0, .int .i64 3]) (res_pk3 (fn := Try.f58) rfl _ _ w.heap.size (zq) (.slice none 0 0) rfl (setRow_heap _ _ _ _ _ _ hQ.out.r) (.int .i64 0) rfl (.int .i64 3) rfl) rfl ⟨_, 0, by rw [hE.out], hQ.out.fin _, fun h => by rw [hE.out] at h; cases h⟩
      · have hE := Lib.hid (hHd.out.trans (hE2.out (.inr (.inr (by have := hX4.out; omega)))))
        have k3p : 0 < X4 := by have := hX4.out; omega
        clear hE2 hE3
        go_wp2_with fail
        refine HZ.out.mono ?_
        rintro e w2 ⟨rfl, hv2⟩
        replace hQ := Lib.hid (hQ.out.below hv2)
        clear hv2 HZ c1
        have L := ldPk_run hQ.out.x
        have S := stPk_run (q := zq) (v := .slice none 0 0) hQ.out.r rfl rfl
        go_wp2_with fail
        refine bodyPost_ret (v := .tuple #[pkV (zq) (.slice none 0 0), .int .i64 0, .int .i64 3]) (res_pk3 (fn := Try.f58) rfl _ _ w.heap.size (zq) (.slice none 0 0) rfl (setRow_heap _ _ _ _ _ _ hQ.out.r) (.int .i64 0) rfl (.int .i64 3) rfl) rfl ⟨_, 0, by rw [hE.out], hQ.out.fin _, fun h => by rw [hE.out] at h; cases h⟩
    · have hE := Lib.hid (hHd.out.trans (hE2.out (.inl (by have := hX2.out; have := hl.out; omega))))
      clear hE2 hE3
      have L := ldPk_run hQ.out.x
      have S := stPk_run (q := zq) (v := .slice none 0 0) hQ.out.r rfl rfl
      go_wp2_with fail
      refine bodyPost_ret (v := .tuple #[pkV (zq) (.slice none 0 0), .int .i64 0, .int .i64 3]) (res_pk3 (fn := Try.f58) rfl _ _ w.heap.size (zq) (.slice none 0 0) rfl (setRow_heap _ _ _ _ _ _ hQ.out.r) (.int .i64 0) rfl (.int .i64 3) rfl) rfl ⟨_, 0, by rw [hE.out], hQ.out.fin _, fun h => by rw [hE.out] at h; cases h⟩
  · have hE := Lib.hid (hHd.out.trans (hE1.out hs))
    clear hE1 hE2 hE3
    have L := ldPk_run hQ.out.x
    have S := stPk_run (q := zq) (v := .slice none 0 0) hQ.out.r rfl rfl
    go_wp2_with fail
    refine bodyPost_ret (v := .tuple #[pkV (zq) (.slice none 0 0), .int .i64 0, .int .i64 15]) (res_pk3 (fn := Try.f58) rfl _ _ w.heap.size (zq) (.slice none 0 0) rfl (setRow_heap _ _ _ _ _ _ hQ.out.r) (.int .i64 0) rfl (.int .i64 15) rfl) rfl ⟨_, 0, by rw [hE.out], hQ.out.fin _, fun h => by rw [hE.out] at h; cases h⟩
end Go.Proofs.Ytigbbpgfblnboaa
