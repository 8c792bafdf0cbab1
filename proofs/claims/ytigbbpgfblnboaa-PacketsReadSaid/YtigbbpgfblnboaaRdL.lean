/- Packets that are read: the reference's head, with addresses of 128 bits. -/
import Derived.Test.YtigbbpgfblnboaaRdK
namespace Go.Proofs.Ytigbbpgfblnboaa
open Go.RowKit
set_option linter.unusedVariables false
set_option linter.unusedSimpArgs false

theorem protoN_six0 {c : Nat} (h1 : ¬ (c : Int) = 58) (h2 : ¬ (c : Int) = 6) (h3 : ¬ (c : Int) = 17) : protoN true c = 0 := by
  unfold protoN; simp; (repeat' split) <;> first | rfl | omega
set_option maxHeartbeats 2000000 in
set_option maxRecDepth 100000 in
theorem headRead_six (g off n cap : Nat) (bs : List Nat) (w : World) (hS : SlB w (some ⟨g, off, none⟩) n cap bs) (hn : 20 ≤ n) (hn2 : n ≤ 1000) (hb : Byt bs) (hb0 : bs.getD 0 0 = 96) :
    Calls Try.prog 58 #[.slice (some ⟨g, off, none⟩) n cap] w fun e w' => ∃ q' k, e = .returned (.tuple #[pkV q' (.slice none 0 0), .int .i64 k, .int .i64 (headE bs)]) ∧ Below w.heap.size w w' ∧ (headE bs = 0 → q' = headQ bs ∧ k = headN bs) := by
  have hgw : g < w.heap.size := (hS.byte 0 (by omega)).2
  have hcap := hS.2.1
  have hl := Lib.hid hS.len
  have hlb : ¬ bs.length < 20 := by have := hl.out; omega
  have hb1 : ¬ bs.getD 0 0 = 69 := by omega
  have hN := Lib.hid (show headN bs = 40 by unfold headN; rw [if_neg hb1])
  have hHd := Lib.hid (show headE bs = sixE bs by unfold headE; rw [if_neg hlb, if_neg hb1, if_pos hb0])
  replace hb1 := Lib.hid hb1
  have hE2 := Lib.hid (sixE_form (bs := bs))
  have hE3 := Lib.hid (sixE_kind (bs := bs))
  have hi : ¬ (n : Int) < 20 := by omega
  have hi0 : (0 : Int) < n := by omega
  have hi0' : 0 < n := by omega
  have hi2 : (n : Int) ≤ 1000 := by omega
  have hne : g ≠ w.heap.size + 1 := by omega
  have Z1 := Blk.new w zeroP 45
  have hw1 : Below w.heap.size w (w.alloc (.cells #[.bool false, .int .u64 0, .int .u64 0, .bool false, .int .u64 0, .int .u64 0, .int .i64 0, .int .i64 0, .int .i64 0, .int .i64 0, .bool false, .bool false, .bool false, .bool false, .int .i64 0, .int .i64 0, .bool false, .int .i64 0, .slice none 0 0] 45)) := (Below.refl _ _).alloc (Nat.le_refl _) _
  have hw2 : Below w.heap.size w ((w.alloc (.cells #[.bool false, .int .u64 0, .int .u64 0, .bool false, .int .u64 0, .int .u64 0, .int .i64 0, .int .i64 0, .int .i64 0, .int .i64 0, .bool false, .bool false, .bool false, .bool false, .int .i64 0, .int .i64 0, .bool false, .int .i64 0, .slice none 0 0] 45)).alloc (.cells #[.bool false, .int .u64 0, .int .u64 0, .bool false, .int .u64 0, .int .u64 0, .int .i64 0, .int .i64 0, .int .i64 0, .int .i64 0, .bool false, .bool false, .bool false, .bool false, .int .i64 0, .int .i64 0, .bool false, .int .i64 0, .slice none 0 0] 45)) := hw1.alloc (by simp) _
  replace hS := hS.below hw2
  have hQ : AtQ w (w.heap.size + 1) zq (.slice none 0 0) ((w.alloc (.cells #[.bool false, .int .u64 0, .int .u64 0, .bool false, .int .u64 0, .int .u64 0, .int .i64 0, .int .i64 0, .int .i64 0, .int .i64 0, .bool false, .bool false, .bool false, .bool false, .int .i64 0, .int .i64 0, .bool false, .int .i64 0, .slice none 0 0] 45)).alloc (.cells #[.bool false, .int .u64 0, .int .u64 0, .bool false, .int .u64 0, .int .u64 0, .int .i64 0, .int .i64 0, .int .i64 0, .int .i64 0, .bool false, .bool false, .bool false, .bool false, .int .i64 0, .int .i64 0, .bool false, .int .i64 0, .slice none 0 0] 45)) := ⟨by
    have := Blk.new (w.alloc (.cells #[.bool false, .int .u64 0, .int .u64 0, .bool false, .int .u64 0, .int .u64 0, .int .i64 0, .int .i64 0, .int .i64 0, .int .i64 0, .bool false, .bool false, .bool false, .bool false, .int .i64 0, .int .i64 0, .bool false, .int .i64 0, .slice none 0 0] 45)) zeroP 45
    rw [show (w.alloc (.cells #[.bool false, .int .u64 0, .int .u64 0, .bool false, .int .u64 0, .int .u64 0, .int .i64 0, .int .i64 0, .int .i64 0, .int .i64 0, .bool false, .bool false, .bool false, .bool false, .int .i64 0, .int .i64 0, .bool false, .int .i64 0, .slice none 0 0] 45)).heap.size = w.heap.size + 1 by simp] at this
    exact this, Z1.alloc _, hw2, by omega⟩
  obtain ⟨c0, _⟩ := hS.byte 0 (by omega)
  rw [Nat.add_zero, hb0] at c0
  replace hb0 := Lib.hid hb0
  clear Z1 hw1 hw2
  have w42 : IntKind.i64.wrap (nb bs 4 2 : Int) = (nb bs 4 2 : Int) := by have := nb_lt hb 4 2; rw [IntKind.wrap_i64]; omega
  obtain ⟨x6, hx6⟩ : ∃ x : Int, x = (bs.getD 6 0 : Nat) := ⟨_, rfl⟩
  obtain ⟨x7, hx7⟩ : ∃ x : Int, x = (bs.getD 7 0 : Nat) := ⟨_, rfl⟩
  have w6 : IntKind.i64.wrap x6 = x6 := by have := hb.getD 6; rw [IntKind.wrap_i64]; omega
  have w7 : IntKind.i64.wrap x7 = x7 := by have := hb.getD 7; rw [IntKind.wrap_i64]; omega
  replace hx6 := Lib.hid hx6
  replace hx7 := Lib.hid hx7
  replace hb := Lib.hid hb
  replace hS := Lib.hid hS
  replace hQ := Lib.hid hQ
  by_cases h40 : n < 40
  · have hE := Lib.hid (hHd.out.trans (hE2.out (.inl (by have := hl.out; omega))))
    have h40' : (n : Int) < 40 := by omega
    clear hE2 hE3 hn2 w42
    go_enter Try.func58, Try.ntmps58
    have L := ldPk_run hQ.out.x
    have S := stPk_run (q := zq) (v := .slice none 0 0) hQ.out.r rfl rfl
    go_wp2_with fail
    refine bodyPost_ret (v := .tuple #[pkV (zq) (.slice none 0 0), .int .i64 0, .int .i64 3]) (res_pk3 (fn := Try.f58) rfl _ _ w.heap.size (zq) (.slice none 0 0) rfl (setRow_heap _ _ _ _ _ _ hQ.out.r) (.int .i64 0) rfl (.int .i64 3) rfl) rfl ⟨_, 0, by rw [hE.out], hQ.out.fin _, fun h => by rw [hE.out] at h; cases h⟩
  have h40' : ¬ (n : Int) < 40 := by omega
  have h40n : 40 ≤ n := by omega
  have h6 : (6 : Int) ≤ cap := by omega
  have h4 : (4 : Int) ≤ cap := by omega
  have h16 : (16 : Int) ≤ cap := by omega
  have h24 : (24 : Int) ≤ cap := by omega
  have h32 : (32 : Int) ≤ cap := by omega
  have h40i : (40 : Int) ≤ cap := by omega
  have z1 : ¬ cap = 1 := by omega
  have z4 : ¬ cap = 4 := by omega
  have z8 : ¬ cap = 8 := by omega
  have z16 : ¬ cap = 16 := by omega
  have z24 : ¬ cap = 24 := by omega
  have z32 : ¬ cap = 32 := by omega
  have n8 : (6 : Int) < n := by omega
  have n9 : (7 : Int) < n := by omega
  have m8 : 6 < n := by omega
  have m9 : 7 < n := by omega
  go_enter Try.func58, Try.ntmps58
  go_wp2_with fail
  refine (num_part _ _ _ _ _ bs _ hS.out 4 2 (by omega) (by omega) (by omega) hb.out).mono ?_
  rintro e w1 ⟨rfl, hv1⟩
  replace hS := Lib.hid (hS.out.below hv1)
  replace hQ := Lib.hid (hQ.out.below hv1)
  clear hv1 c0
  obtain ⟨X2, hX2⟩ : ∃ X : Int, X = (nb bs 4 2 : Nat) := ⟨_, rfl⟩
  rw [← hX2] at w42 ⊢
  replace hX2 := Lib.hid hX2
  by_cases k1 : X2 = (n : Int) - 40
  · have k1' := Lib.hid (show (nb bs 4 2 : Int) = bs.length - 40 by have := hX2.out; have := hl.out; omega)
    subst k1
    have HZ := Lib.hid (num_part _ _ _ _ (cap - 1) bs _ hS.out 1 3 (by omega) (by omega) (by omega) hb.out)
    obtain ⟨X4, hX4⟩ : ∃ X : Int, X = (nb bs 1 3 : Nat) := ⟨_, rfl⟩
    rw [← hX4] at HZ
    replace hX4 := Lib.hid hX4
    by_cases k3 : X4 = 0
    · have k3' := Lib.hid (show nb bs 1 3 = 0 by have := hX4.out; omega)
      subst k3
      replace hE3 := Lib.hid (hE3.out (by rintro (h | h | h); exact absurd hl.out (by omega); exact h k1'.out; exact h k3'.out))
      clear hE2 hX2 k1'
      go_wp2_with fail
      refine HZ.out.mono ?_
      rintro e w2 ⟨rfl, hv2⟩
      replace hS := Lib.hid (hS.out.below hv2)
      replace hQ := Lib.hid (hQ.out.below hv2)
      clear hv2 HZ
      go_wp2_with fail
      refine wb_begin ([]) [] (by kernel_rfl) (fun u0 hb0' hz0' => ?_)
      replace hS := Lib.hid (hS.out.below hb0')
      replace hQ := Lib.hid (hQ.out.below hb0')
      clear hb0' hz0'
      refine wb_pure (i := 0) (d := some 107) (v := ?_) (by simp only [List.getElem?_toArray, List.getElem?_cons_succ, List.getElem?_cons_zero] <;> rfl) (by rfl) (by kernel_rfl) (by kernel_rfl) (by kernel_rfl) (fun _ _ _ h => h) (by rfl) ?_ ?_
      rotate_left
      · ((intro u); go_simp; try with_reducible rfl)
      try simp only [Act.put, List.setIfInBounds_toArray, List.set_cons_zero, List.set_cons_succ]
      refine wb_pure (i := 1) (d := some 108) (v := ?_) (by simp only [List.getElem?_toArray, List.getElem?_cons_succ, List.getElem?_cons_zero] <;> rfl) (by rfl) (by kernel_rfl) (by kernel_rfl) (by kernel_rfl) (fun _ _ _ h => h) (by rfl) ?_ ?_
      rotate_left
      · ((intro u); go_simp; try with_reducible rfl)
      try simp only [Act.put, List.setIfInBounds_toArray, List.set_cons_zero, List.set_cons_succ]
      refine wb_pure (i := 3) (d := some 110) (v := ?_) (by simp only [List.getElem?_toArray, List.getElem?_cons_succ, List.getElem?_cons_zero] <;> rfl) (by rfl) (by kernel_rfl) (by kernel_rfl) (by kernel_rfl) (fun _ _ _ h => h) (by rfl) ?_ ?_
      rotate_left
      · ((intro u); go_simp; try with_reducible rfl)
      try simp only [Act.put, List.setIfInBounds_toArray, List.set_cons_zero, List.set_cons_succ]
      refine wb_pure (i := 4) (d := some 111) (v := ?_) (by simp only [List.getElem?_toArray, List.getElem?_cons_succ, List.getElem?_cons_zero] <;> rfl) (by rfl) (by kernel_rfl) (by kernel_rfl) (by kernel_rfl) (fun _ _ _ h => h) (by rfl) ?_ ?_
      rotate_left
      · ((intro u); go_simp; try with_reducible rfl)
      try simp only [Act.put, List.setIfInBounds_toArray, List.set_cons_zero, List.set_cons_succ]
      refine wb_pure (i := 7) (d := some 114) (v := ?_) (by simp only [List.getElem?_toArray, List.getElem?_cons_succ, List.getElem?_cons_zero] <;> rfl) (by rfl) (by kernel_rfl) (by kernel_rfl) (by kernel_rfl) (fun _ _ _ h => h) (by rfl) ?_ ?_
      rotate_left
      · ((intro u); go_simp; try with_reducible rfl)
      try simp only [Act.put, List.setIfInBounds_toArray, List.set_cons_zero, List.set_cons_succ]
      refine wb_pure (i := 8) (d := some 115) (v := ?_) (by simp only [List.getElem?_toArray, List.getElem?_cons_succ, List.getElem?_cons_zero] <;> rfl) (by rfl) (by kernel_rfl) (by kernel_rfl) (by kernel_rfl) (fun _ _ _ h => h) (by rfl) ?_ ?_
      rotate_left
      · ((intro u); go_simp; try with_reducible rfl)
      try simp only [Act.put, List.setIfInBounds_toArray, List.set_cons_zero, List.set_cons_succ]
      refine wb_pure (i := 10) (d := some 117) (v := ?_) (by simp only [List.getElem?_toArray, List.getElem?_cons_succ, List.getElem?_cons_zero] <;> rfl) (by rfl) (by kernel_rfl) (by kernel_rfl) (by kernel_rfl) (fun _ _ _ h => h) (by rfl) ?_ ?_
      rotate_left
      · ((intro u); go_simp; try with_reducible rfl)
      try simp only [Act.put, List.setIfInBounds_toArray, List.set_cons_zero, List.set_cons_succ]
      refine wb_pure (i := 11) (d := some 118) (v := ?_) (by simp only [List.getElem?_toArray, List.getElem?_cons_succ, List.getElem?_cons_zero] <;> rfl) (by rfl) (by kernel_rfl) (by kernel_rfl) (by kernel_rfl) (fun _ _ _ h => h) (by rfl) ?_ ?_
      rotate_left
      · ((intro u); go_simp; try with_reducible rfl)
      try simp only [Act.put, List.setIfInBounds_toArray, List.set_cons_zero, List.set_cons_succ]
      refine wb_one (i := 2) (by simp only [List.getElem?_toArray, List.getElem?_cons_succ, List.getElem?_cons_zero] <;> rfl) (by kernel_rfl) (by rfl) (fun K hK => ?_)
      go_simp
      refine (num_part _ _ _ _ _ bs _ hS.out 8 8 (by omega) (by omega) (by omega) hb.out).mono ?_
      rintro e u2 ⟨rfl, hv2⟩
      refine hK.out _ _ (fun p hp => by cases hp) ?_
      replace hS := Lib.hid (hS.out.below hv2)
      replace hQ := Lib.hid (hQ.out.below hv2)
      clear hK K hv2
      try simp only [Act.put, List.setIfInBounds_toArray, List.set_cons_zero, List.set_cons_succ]
      refine wb_one (i := 5) (by simp only [List.getElem?_toArray, List.getElem?_cons_succ, List.getElem?_cons_zero] <;> rfl) (by kernel_rfl) (by rfl) (fun K hK => ?_)
      go_simp
      refine (num_part _ _ _ _ _ bs _ hS.out 16 8 (by omega) (by omega) (by omega) hb.out).mono ?_
      rintro e u5 ⟨rfl, hv5⟩
      refine hK.out _ _ (fun p hp => by cases hp) ?_
      replace hS := Lib.hid (hS.out.below hv5)
      replace hQ := Lib.hid (hQ.out.below hv5)
      clear hK K hv5
      try simp only [Act.put, List.setIfInBounds_toArray, List.set_cons_zero, List.set_cons_succ]
      refine wb_pure (i := 6) (d := some 113) (v := ?_) (by simp only [List.getElem?_toArray, List.getElem?_cons_succ, List.getElem?_cons_zero] <;> rfl) (by rfl) (by kernel_rfl) (by kernel_rfl) (by kernel_rfl) (fun _ _ _ h => h) (by rfl) ?_ ?_
      rotate_left
      · ((intro u); go_simp; try with_reducible rfl)
      try simp only [Act.put, List.setIfInBounds_toArray, List.set_cons_zero, List.set_cons_succ]
      refine wb_pure (i := 14) (d := some 121) (v := ?_) (by simp only [List.getElem?_toArray, List.getElem?_cons_succ, List.getElem?_cons_zero] <;> rfl) (by rfl) (by kernel_rfl) (by kernel_rfl) (by kernel_rfl) (fun _ _ _ h => h) (by rfl) ?_ ?_
      rotate_left
      · ((intro u); go_simp; try with_reducible rfl)
      try simp only [Act.put, List.setIfInBounds_toArray, List.set_cons_zero, List.set_cons_succ]
      refine wb_one (i := 9) (by simp only [List.getElem?_toArray, List.getElem?_cons_succ, List.getElem?_cons_zero] <;> rfl) (by kernel_rfl) (by rfl) (fun K hK => ?_)
      go_simp
      refine (num_part _ _ _ _ _ bs _ hS.out 24 8 (by omega) (by omega) (by omega) hb.out).mono ?_
      rintro e u9 ⟨rfl, hv9⟩
      refine hK.out _ _ (fun p hp => by cases hp) ?_
      replace hS := Lib.hid (hS.out.below hv9)
      replace hQ := Lib.hid (hQ.out.below hv9)
      clear hK K hv9
      try simp only [Act.put, List.setIfInBounds_toArray, List.set_cons_zero, List.set_cons_succ]
      refine wb_one (i := 12) (by simp only [List.getElem?_toArray, List.getElem?_cons_succ, List.getElem?_cons_zero] <;> rfl) (by kernel_rfl) (by rfl) (fun K hK => ?_)
      go_simp
      refine (num_part _ _ _ _ _ bs _ hS.out 32 8 (by omega) (by omega) (by omega) hb.out).mono ?_
      rintro e u12 ⟨rfl, hv12⟩
      refine hK.out _ _ (fun p hp => by cases hp) ?_
      replace hS := Lib.hid (hS.out.below hv12)
      replace hQ := Lib.hid (hQ.out.below hv12)
      clear hK K hv12
      try simp only [Act.put, List.setIfInBounds_toArray, List.set_cons_zero, List.set_cons_succ]
      refine wb_pure (i := 13) (d := some 120) (v := ?_) (by simp only [List.getElem?_toArray, List.getElem?_cons_succ, List.getElem?_cons_zero] <;> rfl) (by rfl) (by kernel_rfl) (by kernel_rfl) (by kernel_rfl) (fun _ _ _ h => h) (by rfl) ?_ ?_
      rotate_left
      · ((intro u); go_simp; try with_reducible rfl)
      try simp only [Act.put, List.setIfInBounds_toArray, List.set_cons_zero, List.set_cons_succ]
      refine wb_one (i := 15) (by simp only [List.getElem?_toArray, List.getElem?_cons_succ, List.getElem?_cons_zero] <;> rfl) (by kernel_rfl) (by rfl) (fun K hK => ?_)
      have f0 := hQ.out.x.free 0
      have c0 := hQ.out.x.cell (i := 0) rfl
      have f1 := hQ.out.x.free 1
      have c1 := hQ.out.x.cell (i := 1) rfl
      have f2 := hQ.out.x.free 2
      have c2 := hQ.out.x.cell (i := 2) rfl
      have f3 := hQ.out.x.free 3
      have c3 := hQ.out.x.cell (i := 3) rfl
      have f4 := hQ.out.x.free 4
      have c4 := hQ.out.x.cell (i := 4) rfl
      have f5 := hQ.out.x.free 5
      have c5 := hQ.out.x.cell (i := 5) rfl
      go_simp
      refine hK.out _ _ (fun p hp => by cases hp) ?_
      replace hQ := Lib.hid (((hQ.out.set (q' := { zq with fs := true }) 0 (.bool true) rfl).set (q' := { zq with fs := true, fh := nb bs 8 8 }) 1 (.int .u64 (nb bs 8 8)) rfl).set (q' := { zq with fs := true, fh := nb bs 8 8, fl := nb bs 16 8 }) 2 (.int .u64 (nb bs 16 8)) rfl)
      replace hS := Lib.hid (((hS.out.setPk hne 0 (.bool true)).setPk hne 1 (.int .u64 (nb bs 8 8))).setPk hne 2 (.int .u64 (nb bs 16 8)))
      clear hK K f0 c0 f1 c1 f2 c2
      try simp only [Act.put, List.setIfInBounds_toArray, List.set_cons_zero, List.set_cons_succ]
      refine wb_pure (i := 16) (d := some 122) (v := ?_) (by simp only [List.getElem?_toArray, List.getElem?_cons_succ, List.getElem?_cons_zero] <;> rfl) (by rfl) (by kernel_rfl) (by kernel_rfl) (by kernel_rfl) (fun _ _ _ h => h) (by rfl) ?_ ?_
      rotate_left
      · ((intro u); go_simp; try with_reducible rfl)
      try simp only [Act.put, List.setIfInBounds_toArray, List.set_cons_zero, List.set_cons_succ]
      refine wb_one (i := 17) (by simp only [List.getElem?_toArray, List.getElem?_cons_succ, List.getElem?_cons_zero] <;> rfl) (by kernel_rfl) (by rfl) (fun K hK => ?_)
      go_simp
      refine hK.out _ _ (fun p hp => by cases hp) ?_
      replace hQ := Lib.hid (((hQ.out.set (q' := { zq with fs := true, fh := nb bs 8 8, fl := nb bs 16 8, ts := true }) 3 (.bool true) rfl).set (q' := { zq with fs := true, fh := nb bs 8 8, fl := nb bs 16 8, ts := true, th := nb bs 24 8 }) 4 (.int .u64 (nb bs 24 8)) rfl).set (q' := { zq with fs := true, fh := nb bs 8 8, fl := nb bs 16 8, ts := true, th := nb bs 24 8, tl := nb bs 32 8 }) 5 (.int .u64 (nb bs 32 8)) rfl)
      replace hS := Lib.hid (((hS.out.setPk hne 3 (.bool true)).setPk hne 4 (.int .u64 (nb bs 24 8))).setPk hne 5 (.int .u64 (nb bs 32 8)))
      clear hK K f3 c3 f4 c4 f5 c5
      try simp only [Act.put, List.setIfInBounds_toArray, List.set_cons_zero, List.set_cons_succ]
      refine wb_done (by kernel_rfl) ?_ _
      obtain ⟨c7, _⟩ := hS.out.byte 7 (by omega)
      rw [← hx7.out] at c7
      have f6 := hQ.out.x.free 6
      have d6 := hQ.out.x.cell (i := 6) rfl
      have hQ1 := Lib.hid ((hQ.out.set (q' := ({ zq with fs := true, fh := nb bs 8 8, fl := nb bs 16 8, ts := true, th := nb bs 24 8, tl := nb bs 32 8, hops := x7 } : Pk)) 6 (.int .i64 x7) rfl).below ((Below.refl _ _).alloc (Nat.le_refl _) (.cells #[.int .i64 58, .int .i64 6, .int .i64 17] 3)))
      have hS1 := (hS.out.setPk hne 6 (.int .i64 x7)).below ((Below.refl _ _).alloc (Nat.le_refl _) (.cells #[.int .i64 58, .int .i64 6, .int .i64 17] 3))
      obtain ⟨c6, _⟩ := hS1.byte 6 (by omega)
      rw [← hx6.out] at c6
      clear hS1 hS
      by_cases h58 : x6 = 58
      · have h6 := h58
        clear h58
        have h6' : bs.getD 6 0 = 58 := by have := hx6.out; omega
        have hE := Lib.hid (show headE bs = 0 by rw [hHd.out, hE3.out, if_neg (by rw [h6']; decide)])
        have hG := Lib.hid (show ({ zq with fs := true, fh := nb bs 8 8, fl := nb bs 16 8, ts := true, th := nb bs 24 8, tl := nb bs 32 8, hops := x7, proto := 1 } : Pk) = headQ bs by unfold headQ; rw [if_neg hb1.out]; unfold q6; rw [h6', ← hx7.out]; rfl)
        have HI := Lib.hid (fun w' B h => index3_new 58 6 17 x6 0 w' B h (by subst h6; rfl))
        have hQ2 := hQ1.out.below ((Below.refl _ _).alloc (Nat.le_refl _) (.cells #[.int .i64 1, .int .i64 6, .int .i64 17] 3))
        have f7 := hQ2.x.free 7
        have d7 := hQ2.x.cell (i := 7) rfl
        replace hQ := Lib.hid (hQ2.set (q' := ({ zq with fs := true, fh := nb bs 8 8, fl := nb bs 16 8, ts := true, th := nb bs 24 8, tl := nb bs 32 8, hops := x7, proto := 1 } : Pk)) 7 (.int .i64 1) rfl)
        replace h6 := Lib.hid h6
        clear hE3 h6' hQ1 hQ2
        go_wp2_with fail
        refine (HI.out _ _ (by simp [World.setCell])).mono ?_
        rintro e w3 ⟨rfl, rfl⟩
        clear c6
        have L := ldPk_run hQ.out.x
        have S := stPk_run (q := ({ zq with fs := true, fh := nb bs 8 8, fl := nb bs 16 8, ts := true, th := nb bs 24 8, tl := nb bs 32 8, hops := x7, proto := 1 } : Pk)) (v := .slice none 0 0) hQ.out.r rfl rfl
        go_wp2_with fail
        refine bodyPost_ret (v := .tuple #[pkV (({ zq with fs := true, fh := nb bs 8 8, fl := nb bs 16 8, ts := true, th := nb bs 24 8, tl := nb bs 32 8, hops := x7, proto := 1 } : Pk)) (.slice none 0 0), .int .i64 40, .int .i64 0]) (res_pk3 (fn := Try.f58) rfl _ _ w.heap.size (({ zq with fs := true, fh := nb bs 8 8, fl := nb bs 16 8, ts := true, th := nb bs 24 8, tl := nb bs 32 8, hops := x7, proto := 1 } : Pk)) (.slice none 0 0) rfl (setRow_heap _ _ _ _ _ _ hQ.out.r) (.int .i64 40) rfl (.int .i64 0) rfl) rfl ⟨_, 40, by rw [hE.out], hQ.out.fin _, fun _ => ⟨hG.out, by rw [hN.out]; rfl⟩⟩
      · by_cases h6s : x6 = 6
        · have h6 := h6s
          clear h6s
          replace h58 := Lib.hid h58
          have h6' : bs.getD 6 0 = 6 := by have := hx6.out; omega
          have hE := Lib.hid (show headE bs = 0 by rw [hHd.out, hE3.out, if_neg (by rw [h6']; decide)])
          have hG := Lib.hid (show ({ zq with fs := true, fh := nb bs 8 8, fl := nb bs 16 8, ts := true, th := nb bs 24 8, tl := nb bs 32 8, hops := x7, proto := 6 } : Pk) = headQ bs by unfold headQ; rw [if_neg hb1.out]; unfold q6; rw [h6', ← hx7.out]; rfl)
          have HI := Lib.hid (fun w' B h => index3_new 58 6 17 x6 1 w' B h (by subst h6; rfl))
          have hQ2 := hQ1.out.below ((Below.refl _ _).alloc (Nat.le_refl _) (.cells #[.int .i64 1, .int .i64 6, .int .i64 17] 3))
          have f7 := hQ2.x.free 7
          have d7 := hQ2.x.cell (i := 7) rfl
          replace hQ := Lib.hid (hQ2.set (q' := ({ zq with fs := true, fh := nb bs 8 8, fl := nb bs 16 8, ts := true, th := nb bs 24 8, tl := nb bs 32 8, hops := x7, proto := 6 } : Pk)) 7 (.int .i64 6) rfl)
          replace h6 := Lib.hid h6
          clear hE3 h6' hQ1 hQ2
          go_wp2_with fail
          refine (HI.out _ _ (by simp [World.setCell])).mono ?_
          rintro e w3 ⟨rfl, rfl⟩
          clear c6
          have L := ldPk_run hQ.out.x
          have S := stPk_run (q := ({ zq with fs := true, fh := nb bs 8 8, fl := nb bs 16 8, ts := true, th := nb bs 24 8, tl := nb bs 32 8, hops := x7, proto := 6 } : Pk)) (v := .slice none 0 0) hQ.out.r rfl rfl
          go_wp2_with fail
          refine bodyPost_ret (v := .tuple #[pkV (({ zq with fs := true, fh := nb bs 8 8, fl := nb bs 16 8, ts := true, th := nb bs 24 8, tl := nb bs 32 8, hops := x7, proto := 6 } : Pk)) (.slice none 0 0), .int .i64 40, .int .i64 0]) (res_pk3 (fn := Try.f58) rfl _ _ w.heap.size (({ zq with fs := true, fh := nb bs 8 8, fl := nb bs 16 8, ts := true, th := nb bs 24 8, tl := nb bs 32 8, hops := x7, proto := 6 } : Pk)) (.slice none 0 0) rfl (setRow_heap _ _ _ _ _ _ hQ.out.r) (.int .i64 40) rfl (.int .i64 0) rfl) rfl ⟨_, 40, by rw [hE.out], hQ.out.fin _, fun _ => ⟨hG.out, by rw [hN.out]; rfl⟩⟩
        · by_cases h17 : x6 = 17
          · have h6 := h17
            clear h17
            replace h58 := Lib.hid h58
            replace h6s := Lib.hid h6s
            have h6' : bs.getD 6 0 = 17 := by have := hx6.out; omega
            have hE := Lib.hid (show headE bs = 0 by rw [hHd.out, hE3.out, if_neg (by rw [h6']; decide)])
            have hG := Lib.hid (show ({ zq with fs := true, fh := nb bs 8 8, fl := nb bs 16 8, ts := true, th := nb bs 24 8, tl := nb bs 32 8, hops := x7, proto := 17 } : Pk) = headQ bs by unfold headQ; rw [if_neg hb1.out]; unfold q6; rw [h6', ← hx7.out]; rfl)
            have HI := Lib.hid (fun w' B h => index3_new 58 6 17 x6 2 w' B h (by subst h6; rfl))
            have hQ2 := hQ1.out.below ((Below.refl _ _).alloc (Nat.le_refl _) (.cells #[.int .i64 1, .int .i64 6, .int .i64 17] 3))
            have f7 := hQ2.x.free 7
            have d7 := hQ2.x.cell (i := 7) rfl
            replace hQ := Lib.hid (hQ2.set (q' := ({ zq with fs := true, fh := nb bs 8 8, fl := nb bs 16 8, ts := true, th := nb bs 24 8, tl := nb bs 32 8, hops := x7, proto := 17 } : Pk)) 7 (.int .i64 17) rfl)
            replace h6 := Lib.hid h6
            clear hE3 h6' hQ1 hQ2
            go_wp2_with fail
            refine (HI.out _ _ (by simp [World.setCell])).mono ?_
            rintro e w3 ⟨rfl, rfl⟩
            clear c6
            have L := ldPk_run hQ.out.x
            have S := stPk_run (q := ({ zq with fs := true, fh := nb bs 8 8, fl := nb bs 16 8, ts := true, th := nb bs 24 8, tl := nb bs 32 8, hops := x7, proto := 17 } : Pk)) (v := .slice none 0 0) hQ.out.r rfl rfl
            go_wp2_with fail
            refine bodyPost_ret (v := .tuple #[pkV (({ zq with fs := true, fh := nb bs 8 8, fl := nb bs 16 8, ts := true, th := nb bs 24 8, tl := nb bs 32 8, hops := x7, proto := 17 } : Pk)) (.slice none 0 0), .int .i64 40, .int .i64 0]) (res_pk3 (fn := Try.f58) rfl _ _ w.heap.size (({ zq with fs := true, fh := nb bs 8 8, fl := nb bs 16 8, ts := true, th := nb bs 24 8, tl := nb bs 32 8, hops := x7, proto := 17 } : Pk)) (.slice none 0 0) rfl (setRow_heap _ _ _ _ _ _ hQ.out.r) (.int .i64 40) rfl (.int .i64 0) rfl) rfl ⟨_, 40, by rw [hE.out], hQ.out.fin _, fun _ => ⟨hG.out, by rw [hN.out]; rfl⟩⟩
          · skip
            have hE := Lib.hid (show headE bs = 4 by rw [hHd.out, hE3.out, if_pos (protoN_six0 (c := bs.getD 6 0) (by rw [← hx6.out]; exact h58) (by rw [← hx6.out]; exact h6s) (by rw [← hx6.out]; exact h17))])
            have HI := Lib.hid (fun w' B h => index3_new 58 6 17 x6 (-1) w' B h (by unfold idx3; rw [if_neg h58, if_neg h6s, if_neg h17]))
            replace h58 := Lib.hid h58
            replace h6s := Lib.hid h6s
            replace h17 := Lib.hid h17
            replace hQ := hQ1
            clear hE3 hQ1
            go_wp2_with fail
            refine (HI.out _ _ (by simp [World.setCell])).mono ?_
            rintro e w3 ⟨rfl, rfl⟩
            clear c6
            have L := ldPk_run hQ.out.x
            have S := stPk_run (q := ({ zq with fs := true, fh := nb bs 8 8, fl := nb bs 16 8, ts := true, th := nb bs 24 8, tl := nb bs 32 8, hops := x7 } : Pk)) (v := .slice none 0 0) hQ.out.r rfl rfl
            go_wp2_with fail
            refine bodyPost_ret (v := .tuple #[pkV (({ zq with fs := true, fh := nb bs 8 8, fl := nb bs 16 8, ts := true, th := nb bs 24 8, tl := nb bs 32 8, hops := x7 } : Pk)) (.slice none 0 0), .int .i64 0, .int .i64 4]) (res_pk3 (fn := Try.f58) rfl _ _ w.heap.size (({ zq with fs := true, fh := nb bs 8 8, fl := nb bs 16 8, ts := true, th := nb bs 24 8, tl := nb bs 32 8, hops := x7 } : Pk)) (.slice none 0 0) rfl (setRow_heap _ _ _ _ _ _ hQ.out.r) (.int .i64 0) rfl (.int .i64 4) rfl) rfl ⟨_, 0, by rw [hE.out], hQ.out.fin _, fun h => by rw [hE.out] at h; cases h⟩
    · have hE := Lib.hid (hHd.out.trans (hE2.out (.inr (.inr (by have := hX4.out; omega)))))
      have k3p : 0 < X4 := by have := hX4.out; omega
      clear hE2 hE3 hX2 k1'
      go_wp2_with fail
      refine HZ.out.mono ?_
      rintro e w2 ⟨rfl, hv2⟩
      replace hQ := Lib.hid (hQ.out.below hv2)
      clear hv2 HZ
      have L := ldPk_run hQ.out.x
      have S := stPk_run (q := zq) (v := .slice none 0 0) hQ.out.r rfl rfl
      go_wp2_with fail
      refine bodyPost_ret (v := .tuple #[pkV (zq) (.slice none 0 0), .int .i64 0, .int .i64 3]) (res_pk3 (fn := Try.f58) rfl _ _ w.heap.size (zq) (.slice none 0 0) rfl (setRow_heap _ _ _ _ _ _ hQ.out.r) (.int .i64 0) rfl (.int .i64 3) rfl) rfl ⟨_, 0, by rw [hE.out], hQ.out.fin _, fun h => by rw [hE.out] at h; cases h⟩
  · have hE := Lib.hid (hHd.out.trans (hE2.out (.inr (.inl (by have := hX2.out; have := hl.out; omega)))))
    clear hE2 hE3
    have L := ldPk_run hQ.out.x
    have S := stPk_run (q := zq) (v := .slice none 0 0) hQ.out.r rfl rfl
    go_wp2_with fail
    refine bodyPost_ret (v := .tuple #[pkV (zq) (.slice none 0 0), .int .i64 0, .int .i64 3]) (res_pk3 (fn := Try.f58) rfl _ _ w.heap.size (zq) (.slice none 0 0) rfl (setRow_heap _ _ _ _ _ _ hQ.out.r) (.int .i64 0) rfl (.int .i64 3) rfl) rfl ⟨_, 0, by rw [hE.out], hQ.out.fin _, fun h => by rw [hE.out] at h; cases h⟩
end Go.Proofs.Ytigbbpgfblnboaa
