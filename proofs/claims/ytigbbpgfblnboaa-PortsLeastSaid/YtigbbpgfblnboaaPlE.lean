/- The program's Join. -/
import Derived.Test.YtigbbpgfblnboaaPlD
import Derived.Test.YtigbbpgfblnboaaWaysX
import Derived.Test.YtigbbpgfblnboaaGen
namespace Go.Proofs.Ytigbbpgfblnboaa
open Go.RowKit Go.Shelf
set_option linter.unusedVariables false
set_option linter.unusedSimpArgs false

set_option maxHeartbeats 2000000 in
set_option maxRecDepth 100000 in
theorem insert_nil (f : Value) (w : World) :
    Calls Try.prog 101 #[.slice none 0 0, .int .i64 0, .int .i64 0, f] w fun e w' => e = .returned (.tuple #[]) ∧ Below w.heap.size w w' := by
  go_enter Try.func101, Try.ntmps101
  go_wp2_with fail
  refine wp_loop_rounds 1 ?_
  rw [rounds_succ]
  go_wp2_with fail
  go_end0
  exact ⟨rfl, by first | exact Below.refl _ _ | exact (Below.refl _ _).drew⟩

set_option maxHeartbeats 2000000 in
set_option maxRecDepth 100000 in
theorem pdq_nil (l : Int) (f : Value) (w : World) :
    Calls Try.prog 85 #[.slice none 0 0, .int .i64 0, .int .i64 0, .int .i64 l, f] w fun e w' => e = .returned (.tuple #[]) ∧ Below w.heap.size w w' := by
  have hi := fun w' => insert_nil f w'
  go_enter Try.func85, Try.ntmps85
  go_wp2_with fail
  refine wp_loop_rounds 1 ?_
  rw [rounds_succ]
  go_wp2_with (go_at_call 101; refine (hi _).mono ?_; rintro e w' ⟨rfl, hb⟩)
  (try simp only [Exit.inBlock, Exit.then]); refine bodyPost_ret (results_none rfl _ _ _) rfl ?_
  exact ⟨rfl, hb⟩

set_option maxHeartbeats 2000000 in
set_option maxRecDepth 100000 in
theorem sort_nil (f : Value) (w : World) :
    Calls Try.prog 63 #[.slice none 0 0, f] w fun e w' => e = .returned (.tuple #[]) ∧ Below w.heap.size w w' := by
  have hp := fun l w' => pdq_nil l f w'
  have hl := fun w' => hlen2 0 w' (by decide)
  go_enter Try.func63, Try.ntmps63
  go_wp2_with (first | (go_at_call 86; refine (hl _).mono ?_; rintro e w' ⟨⟨l, rfl⟩, rfl⟩) | (go_at_call 85; refine (hp _ _).mono ?_; rintro e w' ⟨rfl, hb⟩))
  go_end0
  exact ⟨rfl, hb⟩

theorem sort_all (base cap n : Nat) (A : Option Addr) (ps : List Pt) (w : World) (hown : w.ownsRow base 29 2 (.slice A n cap) n (cellsP ps)) (hl : n = ps.length) (h12 : n ≤ 12) (hb : base ≤ w.heap.size) :
    Calls Try.prog 63 #[.slice A n cap, .func (.func 64) #[] #[]] w fun e w' => e = .returned (.tuple #[]) ∧ ∃ qs : List Pt, qs.Perm ps ∧ qs.Pairwise (fun x y => x.1 ≤ y.1) ∧ SlP w' A n cap qs ∧ Below base w w' := by
  have h0 := hown
  rcases hown.2 with ⟨hv, h⟩ | ⟨g, cap', cur, hv, _⟩
  · cases hv
    have : ps = [] := List.length_eq_zero_iff.1 (by omega)
    subst this
    refine (sort_nil _ w).mono ?_
    rintro e w' ⟨rfl, hb'⟩
    exact ⟨rfl, [], List.Perm.refl _, List.Pairwise.nil, ⟨rfl, Nat.le_refl _, .inl rfl⟩, hb'.mono hb⟩
  · cases hv
    exact sort_any base g cap n ps w h0 hl h12 hb

theorem own_below {w w' : World} {base : Nat} {e : TypeId} {size n : Nat} {v : Value} {xs : List Value} (h : w.ownsRow base e size v n xs) (hb : Below w.heap.size w w') : w'.ownsRow base e size v n xs :=
  h.kept (row := none) (gbB hb) (by
    cases hv : v.ownBlock with
    | none => exact .inl rfl
    | some k => exact .inr (by intro e; cases e))
theorem own_last {w : World} {base g cap n : Nat} {q : Pt} {r : List Pt} (h : w.ownsRow base 29 2 (.slice (some ⟨g, 0, none⟩) n cap) n (cellsP (q :: r).reverse)) : w.cell? ⟨g, r.length * 2 + 1, none⟩ = some (.int .i64 q.2) := by
  have hx0 : (cellsP (q :: r).reverse)[r.length * 2 + 1]? = some (.int .i64 q.2) := by
    rw [List.reverse_cons, cellsP_append, List.getElem?_append_right (by rw [cellsP_len, List.length_reverse]; omega), cellsP_len, List.length_reverse, cellsP_one]
    rw [show r.length * 2 + 1 - r.length * 2 = 1 by omega]; rfl
  have hcl := h.cells (g := g) rfl _ _ hx0
  rw [Addr.add_lit, Nat.zero_add] at hcl
  exact hcl
theorem own_setLast {w : World} {base g cap n : Nat} {q : Pt} {r : List Pt} (h : w.ownsRow base 29 2 (.slice (some ⟨g, 0, none⟩) n cap) n (cellsP (q :: r).reverse)) (hn : n = r.length + 1) (z : Int) :
    (w.setCell ⟨g, r.length * 2 + 1, none⟩ (.int .i64 z)).ownsRow base 29 2 (.slice (some ⟨g, 0, none⟩) n cap) n (cellsP ((q.1, z) :: r).reverse) := by
  have hset := own_set h (r.length * 2 + 1) (.int .i64 z) (by omega)
  have hxs : (cellsP (q :: r).reverse).set (r.length * 2 + 1) (.int .i64 z) = cellsP ((q.1, z) :: r).reverse := by
    rw [List.reverse_cons, List.reverse_cons, cellsP_append, cellsP_append, List.set_append_right _ _ (by rw [cellsP_len, List.length_reverse]; omega), cellsP_len, List.length_reverse, cellsP_one, cellsP_one]
    rw [show r.length * 2 + 1 - r.length * 2 = 1 by omega]; rfl
  rw [hxs] at hset
  exact hset
theorem take_le {l : List Pt} (hp : l.Pairwise (fun x y => x.1 ≤ y.1)) {k : Nat} {p : Pt} (hk : l[k]? = some p) : ∀ z ∈ l.take k, z.1 ≤ p.1 := by
  intro z hz
  obtain ⟨i, hi, rfl⟩ := List.mem_take_iff_getElem.1 hz
  obtain ⟨hk1, rfl⟩ := List.getElem?_eq_some_iff.1 hk
  exact List.pairwise_iff_getElem.1 hp i k (by omega) hk1 (by omega)
theorem inP_perm {l m : List Pt} (h : l.Perm m) (k : Int) : InP l k ↔ InP m k := by
  unfold InP
  constructor
  · rintro ⟨p, hp, x⟩; exact ⟨p, h.mem_iff.1 hp, x⟩
  · rintro ⟨p, hp, x⟩; exact ⟨p, h.mem_iff.2 hp, x⟩
theorem Blk.two' {w : World} {p : Nat} {a b : Value} {t : TypeId} (h : Blk w p [a, b] t) : w.cell? ⟨p, 0, none⟩ = some a ∧ w.cell? ⟨p, 1, none⟩ = some b ∧ True := ⟨h.cell (i := 0) (v := a) rfl, h.cell (i := 1) (v := b) rfl, trivial⟩

set_option maxHeartbeats 4000000 in
set_option maxRecDepth 100000 in
theorem join_any (A : Option Addr) (n cap : Nat) (ps : List Pt) (w : World) (hS : SlP w A n cap ps) (hn : n ≤ 12) (hr : ps.all rightB = true) :
    Calls Try.prog 37 #[.slice A n cap] w fun e w' => ∃ (R : List Pt) (A' : Option Addr) (cap' : Nat), e = .returned (.slice A' R.length cap') ∧ SlP w' A' R.length cap' R.reverse ∧ CanR 65536 R ∧ (∀ k, InP R k ↔ InP ps k) ∧ R.length ≤ 12 ∧ Below w.heap.size w w' := by
  have hpl := Lib.hid hS.1
  have hCl := Lib.hid (clone_any A n cap ps w hS (by omega))
  clear hS
  obtain ⟨i0, hi0, hz0, hz1, hz2⟩ := info_parts info_ports
  replace hr := Lib.hid hr
  go_enter Try.func37, Try.ntmps37
  go_wp2_with fail
  refine hCl.out.mono ?_
  rintro e w1 ⟨v', rfl, hown, hb1⟩
  clear hCl
  obtain ⟨A1, cap1, rfl⟩ := own_len hown
  have hSo := Lib.hid (sort_all _ cap1 n A1 ps w1 hown hpl.out hn hb1.size)
  clear hown
  go_wp2_with fail
  refine hSo.out.mono ?_
  rintro e w2 ⟨rfl, qs, hperm, hsort, hSl, hb2⟩
  have hb2 := hb1.trans hb2
  clear hb1 hSo
  obtain ⟨h1, h2, h3⟩ := hSl
  have h3 := Lib.hid h3
  replace h1 := Lib.hid h1
  have hq := Lib.hid (show ∀ p ∈ qs, 0 ≤ p.1 ∧ p.1 ≤ p.2 ∧ p.2 ≤ 65535 from fun p hp => of_decide_eq_true (List.all_eq_true.1 hr.out p (hperm.mem_iff.1 hp)))
  replace hperm := Lib.hid hperm
  replace hsort := Lib.hid hsort
  clear hr hpl
  go_wp2_with fail
  go_loopw [4, 14] (fun o i wr => ∃ (k : Nat) (R : List Pt), k ≤ n ∧ i = .int .i64 k ∧ wr.ownsRow w2.heap.size 29 2 o R.length (cellsP R.reverse) ∧ Below w2.heap.size w2 wr ∧ Hid (JoinI R (qs.take k) 65536) ∧ Hid (R.length ≤ k)) (fun _ i _ => n - (intOf i).toNat)
  case atStart => exact ⟨0, [], by omega, rfl, World.ownsRow_nil _ _ _ _, Below.refl _ _, Lib.hid ⟨trivial, fun k => by simp [inP_nil], fun q r e => by cases e⟩, Lib.hid (by simp)⟩
  case round =>
    obtain ⟨k, R, hk, rfl, hown, hbw, hJ, hRl⟩ := hrel
    by_cases hlt : k < n
    · skip
      obtain ⟨p, hp⟩ : ∃ p, qs[k]? = some p := ⟨qs[k]'(by have := h1.out; omega), List.getElem?_eq_getElem _⟩
      obtain ⟨b, off, rfl, hb, hc⟩ : ∃ b off, A1 = some ⟨b, off, none⟩ ∧ b < w2.heap.size ∧ ∀ j p, qs[j]? = some p → w2.cell? ⟨b, off + j * 2, none⟩ = some (.int .i64 p.1) ∧ w2.cell? ⟨b, off + j * 2 + 1, none⟩ = some (.int .i64 p.2) := by
        rcases h3.out with h | h
        · omega
        · exact h
      obtain ⟨x, y⟩ := p
      obtain ⟨q0, q1⟩ := hc k (x, y) hp
      have r0 : wr.cell? ⟨b, off + k * 2, none⟩ = some (.int .i64 x) := by rw [hbw.cell (by exact hb)]; exact q0
      have r1 : wr.cell? ⟨b, off + k * 2 + 1, none⟩ = some (.int .i64 y) := by rw [hbw.cell (by exact hb)]; exact q1
      have hlt' : (k : Int) < n := by omega
      have hsw := hbw.size
      clear q0 q1
      have hxy := hq.out _ (List.mem_of_getElem? hp)
      replace hxy : 0 ≤ x ∧ x ≤ y ∧ y ≤ 65535 := hxy
      have hJ2 := joinS_keeps hJ.out (p := (x, y)) ⟨hxy.2.1, by show y < 65536; omega⟩ (take_le hsort.out hp)
      have hJ2 : Hid (JoinI (joinS R (x, y)) (qs.take (k + 1)) 65536) := Lib.hid (by
        rw [List.take_add_one, hp]; exact hJ2)
      have hJ0 := hJ
      clear hc hp hJ
      have hBp := Blk.new wr [.int .i64 x, .int .i64 y] 29
      replace hown := hown.alloc (.cells #[.int .i64 x, .int .i64 y] 29)
      replace hbw := hbw.alloc hsw (.cells #[.int .i64 x, .int .i64 y] 29)
      clear hsw
      cases R with
      | nil =>
        obtain ⟨Ao, co, rfl⟩ := own_len hown
        replace hJ2 : Hid (JoinI [(x, y)] (qs.take (k + 1)) 65536) := hJ2
        go_wp2_with fail
        refine wx_begin (none) [] (by kernel_rfl) (fun u0 hb0' hz0' => ?_)
        replace hBp := hBp.below hb0'
        replace hown := own_below hown hb0'
        replace hbw := hbw.trans (hb0'.mono hbw.size)
        clear hb0' hz0'
        refine wx_pure (i := 0) (d := some 20) (v := ?_) (by simp only [List.getElem?_toArray, List.getElem?_cons_succ, List.getElem?_cons_zero] <;> rfl) (by rfl) (by kernel_rfl) (by kernel_rfl) (by kernel_rfl) (fun _ _ _ h => h) (by rfl) ?_ ?_
        rotate_left
        · ((intro u); go_simp; try with_reducible rfl)
        try simp only [Act.put, List.setIfInBounds_toArray, List.set_cons_zero, List.set_cons_succ]
        refine wx_pure (i := 1) (d := some 21) (v := ?_) (by simp only [List.getElem?_toArray, List.getElem?_cons_succ, List.getElem?_cons_zero] <;> rfl) (by rfl) (by kernel_rfl) (by kernel_rfl) (by kernel_rfl) (fun _ _ _ h => h) (by rfl) ?_ ?_
        rotate_left
        · ((intro u); go_simp; try with_reducible rfl)
        try simp only [Act.put, List.setIfInBounds_toArray, List.set_cons_zero, List.set_cons_succ]
        refine wx_pure (i := 2) (d := some 22) (v := ?_) (by simp only [List.getElem?_toArray, List.getElem?_cons_succ, List.getElem?_cons_zero] <;> rfl) (by rfl) (by kernel_rfl) (by kernel_rfl) (by kernel_rfl) (fun _ _ _ h => h) (by rfl) ?_ ?_
        rotate_left
        · ((intro u); go_simp; try with_reducible rfl)
        try simp only [Act.put, List.setIfInBounds_toArray, List.set_cons_zero, List.set_cons_succ]
        refine wx_skip (i := 3) (d := some 23) (by simp only [List.getElem?_toArray, List.getElem?_cons_succ, List.getElem?_cons_zero] <;> rfl) (by rfl) (by kernel_rfl) (by kernel_rfl) (by kernel_rfl) (fun _ _ _ h => h) (by rfl) ?_
        try simp only [Act.put, List.setIfInBounds_toArray, List.set_cons_zero, List.set_cons_succ]
        refine wx_skip (i := 4) (d := some 24) (by simp only [List.getElem?_toArray, List.getElem?_cons_succ, List.getElem?_cons_zero] <;> rfl) (by rfl) (by kernel_rfl) (by kernel_rfl) (by kernel_rfl) (fun _ _ _ h => h) (by rfl) ?_
        try simp only [Act.put, List.setIfInBounds_toArray, List.set_cons_zero, List.set_cons_succ]
        refine wx_skip (i := 5) (d := some 25) (by simp only [List.getElem?_toArray, List.getElem?_cons_succ, List.getElem?_cons_zero] <;> rfl) (by rfl) (by kernel_rfl) (by kernel_rfl) (by kernel_rfl) (fun _ _ _ h => h) (by rfl) ?_
        try simp only [Act.put, List.setIfInBounds_toArray, List.set_cons_zero, List.set_cons_succ]
        refine wx_skip (i := 6) (d := some 26) (by simp only [List.getElem?_toArray, List.getElem?_cons_succ, List.getElem?_cons_zero] <;> rfl) (by rfl) (by kernel_rfl) (by kernel_rfl) (by kernel_rfl) (fun _ _ _ h => h) (by rfl) ?_
        try simp only [Act.put, List.setIfInBounds_toArray, List.set_cons_zero, List.set_cons_succ]
        refine wx_skip (i := 7) (d := some 27) (by simp only [List.getElem?_toArray, List.getElem?_cons_succ, List.getElem?_cons_zero] <;> rfl) (by rfl) (by kernel_rfl) (by kernel_rfl) (by kernel_rfl) (fun _ _ _ h => h) (by rfl) ?_
        try simp only [Act.put, List.setIfInBounds_toArray, List.set_cons_zero, List.set_cons_succ]
        refine wx_skip (i := 8) (d := some 28) (by simp only [List.getElem?_toArray, List.getElem?_cons_succ, List.getElem?_cons_zero] <;> rfl) (by rfl) (by kernel_rfl) (by kernel_rfl) (by kernel_rfl) (fun _ _ _ h => h) (by rfl) ?_
        try simp only [Act.put, List.setIfInBounds_toArray, List.set_cons_zero, List.set_cons_succ]
        refine wx_skip (i := 9) (d := some 29) (by simp only [List.getElem?_toArray, List.getElem?_cons_succ, List.getElem?_cons_zero] <;> rfl) (by rfl) (by kernel_rfl) (by kernel_rfl) (by kernel_rfl) (fun _ _ _ h => h) (by rfl) ?_
        try simp only [Act.put, List.setIfInBounds_toArray, List.set_cons_zero, List.set_cons_succ]
        refine wx_skip (i := 10) (d := some 30) (by simp only [List.getElem?_toArray, List.getElem?_cons_succ, List.getElem?_cons_zero] <;> rfl) (by rfl) (by kernel_rfl) (by kernel_rfl) (by kernel_rfl) (fun _ _ _ h => h) (by rfl) ?_
        try simp only [Act.put, List.setIfInBounds_toArray, List.set_cons_zero, List.set_cons_succ]
        refine wx_skip (i := 11) (d := some 31) (by simp only [List.getElem?_toArray, List.getElem?_cons_succ, List.getElem?_cons_zero] <;> rfl) (by rfl) (by kernel_rfl) (by kernel_rfl) (by kernel_rfl) (fun _ _ _ h => h) (by rfl) ?_
        try simp only [Act.put, List.setIfInBounds_toArray, List.set_cons_zero, List.set_cons_succ]
        refine wx_skip (i := 12) (d := some 32) (by simp only [List.getElem?_toArray, List.getElem?_cons_succ, List.getElem?_cons_zero] <;> rfl) (by rfl) (by kernel_rfl) (by kernel_rfl) (by kernel_rfl) (fun _ _ _ h => h) (by rfl) ?_
        try simp only [Act.put, List.setIfInBounds_toArray, List.set_cons_zero, List.set_cons_succ]
        refine wx_pure (i := 13) (d := some 33) (v := ?_) (by simp only [List.getElem?_toArray, List.getElem?_cons_succ, List.getElem?_cons_zero] <;> rfl) (by rfl) (by kernel_rfl) (by kernel_rfl) (by kernel_rfl) (fun _ _ _ h => h) (by rfl) ?_ ?_
        rotate_left
        · ((intro u); go_simp; try with_reducible rfl)
        try simp only [Act.put, List.setIfInBounds_toArray, List.set_cons_zero, List.set_cons_succ]
        refine wx_done (by kernel_rfl) ?_ _
        skip
        obtain ⟨c0, c1, _⟩ := hBp.two'
        have hz := hbw.size
        go_wp2_with (at_builtin; refine wpList_append_own _ rfl _ _ 26 rfl w2.heap.size 29 i0 (.agg #[.int .i64 0, .int .i64 0]) 2 16 Try.underlying26 hi0 hz0 hz1 hz2 rfl (by decide) _ _ _ rfl (hown.alloc _) ⟨u0.heap.size, 0, none⟩ 1 1 [.int .i64 x, .int .i64 y] rfl ?c1 ?c2 ?c3 ?c4 ?c5 ?c6 ?_)
        try case c1 => rfl
        try case c2 => exact cell_two_at _ _ _ _ _ rfl
        case c3 => first | exact ⟨rfl, rfl⟩ | (intro u hu; simp at hu; rcases hu with rfl | rfl <;> rfl)
        case c4 => have hQ := hRl.out; unfold maxLen; omega
        case c5 => have hQ := hRl.out; omega
        case c6 => first | omega | (simp; done) | (simp; omega) | fail
        intro v3 x3 hown3 hg3 _
        have hb3 : Below w2.heap.size w2 x3 := (hbw.alloc hbw.size _).grown hg3 (by first | omega | (simp; done) | (simp; omega)) (fun k h => (hown.lt k h).1)
        clear hg3 hown hbw
        go_wp2_with fail
        go_roundw
        case rel => exact ⟨k + 1, [(x, y)], by omega, by go_num, hown3, hb3, hJ2, Lib.hid (by simp)⟩
        case measure => simp [intOf]; omega
      | cons q r =>
        obtain ⟨q1, q2⟩ := q
        obtain ⟨g, co, rfl⟩ := own_slice hown (by simp)
        obtain ⟨hqa, hqb⟩ : 0 ≤ q2 ∧ q2 ≤ 65535 := by
          obtain ⟨j1, j2, _⟩ := hJ0.out
          obtain ⟨p, hp, hp2⟩ := (j2 q2).1 ((inP_cons _ _ _).2 (.inl ⟨j1.2.1, Int.le_refl _⟩))
          have := hq.out p (List.mem_of_mem_take hp)
          have h5 : q2 < 65536 := j1.1
          omega
        have hwq : IntKind.i64.wrap (q2 + 1) = q2 + 1 := by rw [IntKind.wrap_i64]; omega
        have hRl' : ((q1, q2) :: r).length ≤ k := hRl.out
        obtain ⟨t, ht⟩ : ∃ t : Int, (r.length : Int) = t := ⟨_, rfl⟩
        obtain ⟨L, hL⟩ : ∃ L, L = ((q1, q2) :: r).length := ⟨_, rfl⟩
        have hL1 : L = r.length + 1 := by rw [hL]; simp
        have ht0 : 0 ≤ t := by omega
        have ht1 : t < 65536 := by omega
        have htn := Lib.hid (show r.length = t.toNat by omega)
        have hrl : (L : Int) - 1 = t := by omega
        have hwt : IntKind.i64.wrap t = t := by rw [IntKind.wrap_i64]; omega
        have hrl2 : t < (L : Int) := by omega
        have hL0 : ((L : Int) == 0) = false := by rw [beq_eq_false_iff_ne]; omega
        rw [← hL] at hown hRl ⊢
        replace hL := Lib.hid hL
        replace hL1 := Lib.hid hL1
        clear ht hRl'
        by_cases hqx : q2 + 1 < x
        · have e0 : joinS ((q1, q2) :: r) (x, y) = (x, y) :: (q1, q2) :: r := if_pos hqx
          rw [e0] at hJ2
          clear e0
          go_wp2_with fail
          refine wx_begin (none) [] (by kernel_rfl) (fun u0 hb0' hz0' => ?_)
          replace hBp := hBp.below hb0'
          replace hown := own_below hown hb0'
          replace hbw := hbw.trans (hb0'.mono hbw.size)
          clear hb0' hz0'
          obtain ⟨hg1, hg2⟩ := own_base hown
          have hcl := own_last hown
          rw [htn.out] at hcl
          refine wx_pure (i := 0) (d := some 20) (v := ?_) (by simp only [List.getElem?_toArray, List.getElem?_cons_succ, List.getElem?_cons_zero] <;> rfl) (by rfl) (by kernel_rfl) (by kernel_rfl) (by kernel_rfl) (fun _ _ _ h => h) (by rfl) ?_ ?_
          rotate_left
          · ((intro u); go_simp; try with_reducible rfl)
          try simp only [Act.put, List.setIfInBounds_toArray, List.set_cons_zero, List.set_cons_succ]
          refine wx_pure (i := 1) (d := some 21) (v := ?_) (by simp only [List.getElem?_toArray, List.getElem?_cons_succ, List.getElem?_cons_zero] <;> rfl) (by rfl) (by kernel_rfl) (by kernel_rfl) (by kernel_rfl) (fun _ _ _ h => h) (by rfl) ?_ ?_
          rotate_left
          · ((intro u); go_simp; try with_reducible rfl)
          try simp only [Act.put, List.setIfInBounds_toArray, List.set_cons_zero, List.set_cons_succ]
          refine wx_pure (i := 2) (d := some 22) (v := ?_) (by simp only [List.getElem?_toArray, List.getElem?_cons_succ, List.getElem?_cons_zero] <;> rfl) (by rfl) (by kernel_rfl) (by kernel_rfl) (by kernel_rfl) (fun _ _ _ h => h) (by rfl) ?_ ?_
          rotate_left
          · ((intro u); go_simp; try with_reducible rfl)
          try simp only [Act.put, List.setIfInBounds_toArray, List.set_cons_zero, List.set_cons_succ]
          refine wx_pure (i := 3) (d := some 23) (v := ?_) (by simp only [List.getElem?_toArray, List.getElem?_cons_succ, List.getElem?_cons_zero] <;> rfl) (by rfl) (by kernel_rfl) (by kernel_rfl) (by kernel_rfl) (fun _ _ _ h => h) (by rfl) ?_ ?_
          rotate_left
          · ((intro u); go_simp; try with_reducible rfl)
          try simp only [Act.put, List.setIfInBounds_toArray, List.set_cons_zero, List.set_cons_succ]
          refine wx_take (i := 4) (d := some 24) (v := ?_) (by simp only [List.getElem?_toArray, List.getElem?_cons_succ, List.getElem?_cons_zero] <;> rfl) (by rfl) (by kernel_rfl) (by kernel_rfl) (by kernel_rfl) (fun _ _ _ h => h) (by rfl) (by kernel_rfl) ?_ ?_
          rotate_left
          · ((intro u hu); obtain ⟨c0, c1, _⟩ := (hBp.gn hu).two'; have cq := ((gb2B hu).cell (by exact hg2)).trans hcl; go_simp; try with_reducible rfl)
          try simp only [Act.put, List.setIfInBounds_toArray, List.set_cons_zero, List.set_cons_succ]
          refine wx_pure (i := 5) (d := some 25) (v := ?_) (by simp only [List.getElem?_toArray, List.getElem?_cons_succ, List.getElem?_cons_zero] <;> rfl) (by rfl) (by kernel_rfl) (by kernel_rfl) (by kernel_rfl) (fun _ _ _ h => h) (by rfl) ?_ ?_
          rotate_left
          · ((intro u); go_simp; try with_reducible rfl)
          try simp only [Act.put, List.setIfInBounds_toArray, List.set_cons_zero, List.set_cons_succ]
          refine wx_pure (i := 6) (d := some 26) (v := ?_) (by simp only [List.getElem?_toArray, List.getElem?_cons_succ, List.getElem?_cons_zero] <;> rfl) (by rfl) (by kernel_rfl) (by kernel_rfl) (by kernel_rfl) (fun _ _ _ h => h) (by rfl) ?_ ?_
          rotate_left
          · ((intro u); go_simp; try with_reducible rfl)
          try simp only [Act.put, List.setIfInBounds_toArray, List.set_cons_zero, List.set_cons_succ]
          refine wx_pure (i := 7) (d := some 27) (v := ?_) (by simp only [List.getElem?_toArray, List.getElem?_cons_succ, List.getElem?_cons_zero] <;> rfl) (by rfl) (by kernel_rfl) (by kernel_rfl) (by kernel_rfl) (fun _ _ _ h => h) (by rfl) ?_ ?_
          rotate_left
          · ((intro u); go_simp; try with_reducible rfl)
          try simp only [Act.put, List.setIfInBounds_toArray, List.set_cons_zero, List.set_cons_succ]
          refine wx_pure (i := 8) (d := some 28) (v := ?_) (by simp only [List.getElem?_toArray, List.getElem?_cons_succ, List.getElem?_cons_zero] <;> rfl) (by rfl) (by kernel_rfl) (by kernel_rfl) (by kernel_rfl) (fun _ _ _ h => h) (by rfl) ?_ ?_
          rotate_left
          · ((intro u); go_simp; try with_reducible rfl)
          try simp only [Act.put, List.setIfInBounds_toArray, List.set_cons_zero, List.set_cons_succ]
          refine wx_pure (i := 9) (d := some 29) (v := ?_) (by simp only [List.getElem?_toArray, List.getElem?_cons_succ, List.getElem?_cons_zero] <;> rfl) (by rfl) (by kernel_rfl) (by kernel_rfl) (by kernel_rfl) (fun _ _ _ h => h) (by rfl) ?_ ?_
          rotate_left
          · ((intro u); go_simp; try with_reducible rfl)
          try simp only [Act.put, List.setIfInBounds_toArray, List.set_cons_zero, List.set_cons_succ]
          refine wx_take (i := 10) (d := some 30) (v := ?_) (by simp only [List.getElem?_toArray, List.getElem?_cons_succ, List.getElem?_cons_zero] <;> rfl) (by rfl) (by kernel_rfl) (by kernel_rfl) (by kernel_rfl) (fun _ _ _ h => h) (by rfl) (by kernel_rfl) ?_ ?_
          rotate_left
          · ((intro u hu); obtain ⟨c0, c1, _⟩ := (hBp.gn hu).two'; have cq := ((gb2B hu).cell (by exact hg2)).trans hcl; go_simp; try with_reducible rfl)
          try simp only [Act.put, List.setIfInBounds_toArray, List.set_cons_zero, List.set_cons_succ]
          refine wx_pure (i := 11) (d := some 31) (v := ?_) (by simp only [List.getElem?_toArray, List.getElem?_cons_succ, List.getElem?_cons_zero] <;> rfl) (by rfl) (by kernel_rfl) (by kernel_rfl) (by kernel_rfl) (fun _ _ _ h => h) (by rfl) ?_ ?_
          rotate_left
          · ((intro u); go_simp; try with_reducible rfl)
          try simp only [Act.put, List.setIfInBounds_toArray, List.set_cons_zero, List.set_cons_succ]
          refine wx_pure (i := 12) (d := some 32) (v := ?_) (by simp only [List.getElem?_toArray, List.getElem?_cons_succ, List.getElem?_cons_zero] <;> rfl) (by rfl) (by kernel_rfl) (by kernel_rfl) (by kernel_rfl) (fun _ _ _ h => h) (by rfl) ?_ ?_
          rotate_left
          · ((intro u); go_simp; try with_reducible rfl)
          try simp only [Act.put, List.setIfInBounds_toArray, List.set_cons_zero, List.set_cons_succ]
          refine wx_pure (i := 13) (d := some 33) (v := ?_) (by simp only [List.getElem?_toArray, List.getElem?_cons_succ, List.getElem?_cons_zero] <;> rfl) (by rfl) (by kernel_rfl) (by kernel_rfl) (by kernel_rfl) (fun _ _ _ h => h) (by rfl) ?_ ?_
          rotate_left
          · ((intro u); go_simp; try with_reducible rfl)
          try simp only [Act.put, List.setIfInBounds_toArray, List.set_cons_zero, List.set_cons_succ]
          refine wx_done (by kernel_rfl) ?_ _
          skip
          obtain ⟨c0, c1, _⟩ := hBp.two'
          have hz := hbw.size
          go_wp2_with (at_builtin; refine wpList_append_own _ rfl _ _ 26 rfl w2.heap.size 29 i0 (.agg #[.int .i64 0, .int .i64 0]) 2 16 Try.underlying26 hi0 hz0 hz1 hz2 rfl (by decide) _ _ _ rfl (hown.alloc _) ⟨u0.heap.size, 0, none⟩ 1 1 [.int .i64 x, .int .i64 y] rfl ?d1 ?d2 ?d3 ?d4 ?d5 ?d6 ?_)
          try case d1 => rfl
          try case d2 => exact cell_two_at _ _ _ _ _ rfl
          case d3 => first | exact ⟨rfl, rfl⟩ | (intro u hu; simp at hu; rcases hu with rfl | rfl <;> rfl)
          case d4 => have hQ := hRl.out; unfold maxLen; omega
          case d5 => have hQ := hRl.out; omega
          case d6 => first | omega | (simp; done) | (simp; omega) | fail
          intro v3 x3 hown3 hg3 _
          have hb3 : Below w2.heap.size w2 x3 := (hbw.alloc hbw.size _).grown hg3 (by first | omega | (simp; done) | (simp; omega)) (fun k h => (hown.lt k h).1)
          clear hg3 hown hbw
          go_wp2_with fail
          go_roundw
          case rel => exact ⟨k + 1, (x, y) :: (q1, q2) :: r, by omega, by go_num, by rw [List.reverse_cons, List.reverse_cons, cellsP_append _ [(x, y)], List.length_cons, ← hL.out]; exact hown3, hb3, hJ2, Lib.hid (by have := hRl.out; rw [List.length_cons, ← hL.out]; omega)⟩
          case measure => simp [intOf]; omega
        · have e0 : joinS ((q1, q2) :: r) (x, y) = (q1, max q2 y) :: r := if_neg hqx
          rw [e0] at hJ2
          clear e0
          go_wp2_with fail
          refine wx_begin (none) [] (by kernel_rfl) (fun u0 hb0' hz0' => ?_)
          replace hBp := hBp.below hb0'
          replace hown := own_below hown hb0'
          replace hbw := hbw.trans (hb0'.mono hbw.size)
          clear hb0' hz0'
          obtain ⟨hg1, hg2⟩ := own_base hown
          have hcl := own_last hown
          rw [htn.out] at hcl
          refine wx_pure (i := 0) (d := some 20) (v := ?_) (by simp only [List.getElem?_toArray, List.getElem?_cons_succ, List.getElem?_cons_zero] <;> rfl) (by rfl) (by kernel_rfl) (by kernel_rfl) (by kernel_rfl) (fun _ _ _ h => h) (by rfl) ?_ ?_
          rotate_left
          · ((intro u); go_simp; try with_reducible rfl)
          try simp only [Act.put, List.setIfInBounds_toArray, List.set_cons_zero, List.set_cons_succ]
          refine wx_pure (i := 1) (d := some 21) (v := ?_) (by simp only [List.getElem?_toArray, List.getElem?_cons_succ, List.getElem?_cons_zero] <;> rfl) (by rfl) (by kernel_rfl) (by kernel_rfl) (by kernel_rfl) (fun _ _ _ h => h) (by rfl) ?_ ?_
          rotate_left
          · ((intro u); go_simp; try with_reducible rfl)
          try simp only [Act.put, List.setIfInBounds_toArray, List.set_cons_zero, List.set_cons_succ]
          refine wx_pure (i := 2) (d := some 22) (v := ?_) (by simp only [List.getElem?_toArray, List.getElem?_cons_succ, List.getElem?_cons_zero] <;> rfl) (by rfl) (by kernel_rfl) (by kernel_rfl) (by kernel_rfl) (fun _ _ _ h => h) (by rfl) ?_ ?_
          rotate_left
          · ((intro u); go_simp; try with_reducible rfl)
          try simp only [Act.put, List.setIfInBounds_toArray, List.set_cons_zero, List.set_cons_succ]
          refine wx_pure (i := 3) (d := some 23) (v := ?_) (by simp only [List.getElem?_toArray, List.getElem?_cons_succ, List.getElem?_cons_zero] <;> rfl) (by rfl) (by kernel_rfl) (by kernel_rfl) (by kernel_rfl) (fun _ _ _ h => h) (by rfl) ?_ ?_
          rotate_left
          · ((intro u); go_simp; try with_reducible rfl)
          try simp only [Act.put, List.setIfInBounds_toArray, List.set_cons_zero, List.set_cons_succ]
          refine wx_take (i := 4) (d := some 24) (v := ?_) (by simp only [List.getElem?_toArray, List.getElem?_cons_succ, List.getElem?_cons_zero] <;> rfl) (by rfl) (by kernel_rfl) (by kernel_rfl) (by kernel_rfl) (fun _ _ _ h => h) (by rfl) (by kernel_rfl) ?_ ?_
          rotate_left
          · ((intro u hu); obtain ⟨c0, c1, _⟩ := (hBp.gn hu).two'; have cq := ((gb2B hu).cell (by exact hg2)).trans hcl; go_simp; try with_reducible rfl)
          try simp only [Act.put, List.setIfInBounds_toArray, List.set_cons_zero, List.set_cons_succ]
          refine wx_pure (i := 5) (d := some 25) (v := ?_) (by simp only [List.getElem?_toArray, List.getElem?_cons_succ, List.getElem?_cons_zero] <;> rfl) (by rfl) (by kernel_rfl) (by kernel_rfl) (by kernel_rfl) (fun _ _ _ h => h) (by rfl) ?_ ?_
          rotate_left
          · ((intro u); go_simp; try with_reducible rfl)
          try simp only [Act.put, List.setIfInBounds_toArray, List.set_cons_zero, List.set_cons_succ]
          refine wx_pure (i := 6) (d := some 26) (v := ?_) (by simp only [List.getElem?_toArray, List.getElem?_cons_succ, List.getElem?_cons_zero] <;> rfl) (by rfl) (by kernel_rfl) (by kernel_rfl) (by kernel_rfl) (fun _ _ _ h => h) (by rfl) ?_ ?_
          rotate_left
          · ((intro u); go_simp; try with_reducible rfl)
          try simp only [Act.put, List.setIfInBounds_toArray, List.set_cons_zero, List.set_cons_succ]
          refine wx_pure (i := 7) (d := some 27) (v := ?_) (by simp only [List.getElem?_toArray, List.getElem?_cons_succ, List.getElem?_cons_zero] <;> rfl) (by rfl) (by kernel_rfl) (by kernel_rfl) (by kernel_rfl) (fun _ _ _ h => h) (by rfl) ?_ ?_
          rotate_left
          · ((intro u); go_simp; try with_reducible rfl)
          try simp only [Act.put, List.setIfInBounds_toArray, List.set_cons_zero, List.set_cons_succ]
          refine wx_pure (i := 8) (d := some 28) (v := ?_) (by simp only [List.getElem?_toArray, List.getElem?_cons_succ, List.getElem?_cons_zero] <;> rfl) (by rfl) (by kernel_rfl) (by kernel_rfl) (by kernel_rfl) (fun _ _ _ h => h) (by rfl) ?_ ?_
          rotate_left
          · ((intro u); go_simp; try with_reducible rfl)
          try simp only [Act.put, List.setIfInBounds_toArray, List.set_cons_zero, List.set_cons_succ]
          refine wx_pure (i := 9) (d := some 29) (v := ?_) (by simp only [List.getElem?_toArray, List.getElem?_cons_succ, List.getElem?_cons_zero] <;> rfl) (by rfl) (by kernel_rfl) (by kernel_rfl) (by kernel_rfl) (fun _ _ _ h => h) (by rfl) ?_ ?_
          rotate_left
          · ((intro u); go_simp; try with_reducible rfl)
          try simp only [Act.put, List.setIfInBounds_toArray, List.set_cons_zero, List.set_cons_succ]
          refine wx_take (i := 10) (d := some 30) (v := ?_) (by simp only [List.getElem?_toArray, List.getElem?_cons_succ, List.getElem?_cons_zero] <;> rfl) (by rfl) (by kernel_rfl) (by kernel_rfl) (by kernel_rfl) (fun _ _ _ h => h) (by rfl) (by kernel_rfl) ?_ ?_
          rotate_left
          · ((intro u hu); obtain ⟨c0, c1, _⟩ := (hBp.gn hu).two'; have cq := ((gb2B hu).cell (by exact hg2)).trans hcl; go_simp; try with_reducible rfl)
          try simp only [Act.put, List.setIfInBounds_toArray, List.set_cons_zero, List.set_cons_succ]
          refine wx_pure (i := 11) (d := some 31) (v := ?_) (by simp only [List.getElem?_toArray, List.getElem?_cons_succ, List.getElem?_cons_zero] <;> rfl) (by rfl) (by kernel_rfl) (by kernel_rfl) (by kernel_rfl) (fun _ _ _ h => h) (by rfl) ?_ ?_
          rotate_left
          · ((intro u); go_simp; try with_reducible rfl)
          try simp only [Act.put, List.setIfInBounds_toArray, List.set_cons_zero, List.set_cons_succ]
          refine wx_pure (i := 12) (d := some 32) (v := ?_) (by simp only [List.getElem?_toArray, List.getElem?_cons_succ, List.getElem?_cons_zero] <;> rfl) (by rfl) (by kernel_rfl) (by kernel_rfl) (by kernel_rfl) (fun _ _ _ h => h) (by rfl) ?_ ?_
          rotate_left
          · ((intro u); go_simp; try with_reducible rfl)
          try simp only [Act.put, List.setIfInBounds_toArray, List.set_cons_zero, List.set_cons_succ]
          refine wx_pure (i := 13) (d := some 33) (v := ?_) (by simp only [List.getElem?_toArray, List.getElem?_cons_succ, List.getElem?_cons_zero] <;> rfl) (by rfl) (by kernel_rfl) (by kernel_rfl) (by kernel_rfl) (fun _ _ _ h => h) (by rfl) ?_ ?_
          rotate_left
          · ((intro u); go_simp; try with_reducible rfl)
          try simp only [Act.put, List.setIfInBounds_toArray, List.set_cons_zero, List.set_cons_succ]
          refine wx_done (by kernel_rfl) ?_ _
          skip
          go_wp2_with fail
          refine wx_begin (none) [14] (by kernel_rfl) (fun u0 hb0' hz0' => ?_)
          replace hBp := hBp.below hb0'
          replace hown := own_below hown hb0'
          replace hbw := hbw.trans (hb0'.mono hbw.size)
          clear hb0' hz0'
          obtain ⟨hg1, hg2⟩ := own_base hown
          have hcl := own_last hown
          have hfz := own_frozen hown (r.length * 2 + 1)
          rw [htn.out] at hcl hfz
          refine wx_pure (i := 0) (d := some 38) (v := ?_) (by simp only [List.getElem?_toArray, List.getElem?_cons_succ, List.getElem?_cons_zero] <;> rfl) (by rfl) (by kernel_rfl) (by kernel_rfl) (by kernel_rfl) (fun _ _ _ h => h) (by rfl) ?_ ?_
          rotate_left
          · ((intro u); go_simp; try with_reducible rfl)
          try simp only [Act.put, List.setIfInBounds_toArray, List.set_cons_zero, List.set_cons_succ]
          refine wx_pure (i := 1) (d := some 39) (v := ?_) (by simp only [List.getElem?_toArray, List.getElem?_cons_succ, List.getElem?_cons_zero] <;> rfl) (by rfl) (by kernel_rfl) (by kernel_rfl) (by kernel_rfl) (fun _ _ _ h => h) (by rfl) ?_ ?_
          rotate_left
          · ((intro u); go_simp; try with_reducible rfl)
          try simp only [Act.put, List.setIfInBounds_toArray, List.set_cons_zero, List.set_cons_succ]
          refine wx_pure (i := 2) (d := some 40) (v := ?_) (by simp only [List.getElem?_toArray, List.getElem?_cons_succ, List.getElem?_cons_zero] <;> rfl) (by rfl) (by kernel_rfl) (by kernel_rfl) (by kernel_rfl) (fun _ _ _ h => h) (by rfl) ?_ ?_
          rotate_left
          · ((intro u); go_simp; try with_reducible rfl)
          try simp only [Act.put, List.setIfInBounds_toArray, List.set_cons_zero, List.set_cons_succ]
          refine wx_pure (i := 3) (d := some 41) (v := ?_) (by simp only [List.getElem?_toArray, List.getElem?_cons_succ, List.getElem?_cons_zero] <;> rfl) (by rfl) (by kernel_rfl) (by kernel_rfl) (by kernel_rfl) (fun _ _ _ h => h) (by rfl) ?_ ?_
          rotate_left
          · ((intro u); go_simp; try with_reducible rfl)
          try simp only [Act.put, List.setIfInBounds_toArray, List.set_cons_zero, List.set_cons_succ]
          refine wx_pure (i := 4) (d := some 42) (v := ?_) (by simp only [List.getElem?_toArray, List.getElem?_cons_succ, List.getElem?_cons_zero] <;> rfl) (by rfl) (by kernel_rfl) (by kernel_rfl) (by kernel_rfl) (fun _ _ _ h => h) (by rfl) ?_ ?_
          rotate_left
          · ((intro u); go_simp; try with_reducible rfl)
          try simp only [Act.put, List.setIfInBounds_toArray, List.set_cons_zero, List.set_cons_succ]
          refine wx_pure (i := 5) (d := some 43) (v := ?_) (by simp only [List.getElem?_toArray, List.getElem?_cons_succ, List.getElem?_cons_zero] <;> rfl) (by rfl) (by kernel_rfl) (by kernel_rfl) (by kernel_rfl) (fun _ _ _ h => h) (by rfl) ?_ ?_
          rotate_left
          · ((intro u); go_simp; try with_reducible rfl)
          try simp only [Act.put, List.setIfInBounds_toArray, List.set_cons_zero, List.set_cons_succ]
          refine wx_pure (i := 6) (d := some 44) (v := ?_) (by simp only [List.getElem?_toArray, List.getElem?_cons_succ, List.getElem?_cons_zero] <;> rfl) (by rfl) (by kernel_rfl) (by kernel_rfl) (by kernel_rfl) (fun _ _ _ h => h) (by rfl) ?_ ?_
          rotate_left
          · ((intro u); go_simp; try with_reducible rfl)
          try simp only [Act.put, List.setIfInBounds_toArray, List.set_cons_zero, List.set_cons_succ]
          refine wx_pure (i := 7) (d := some 45) (v := ?_) (by simp only [List.getElem?_toArray, List.getElem?_cons_succ, List.getElem?_cons_zero] <;> rfl) (by rfl) (by kernel_rfl) (by kernel_rfl) (by kernel_rfl) (fun _ _ _ h => h) (by rfl) ?_ ?_
          rotate_left
          · ((intro u); go_simp; try with_reducible rfl)
          try simp only [Act.put, List.setIfInBounds_toArray, List.set_cons_zero, List.set_cons_succ]
          refine wx_take (i := 8) (d := some 46) (v := ?_) (by simp only [List.getElem?_toArray, List.getElem?_cons_succ, List.getElem?_cons_zero] <;> rfl) (by rfl) (by kernel_rfl) (by kernel_rfl) (by kernel_rfl) (fun _ _ _ h => h) (by rfl) (by kernel_rfl) ?_ ?_
          rotate_left
          · ((intro u hu); obtain ⟨c0, c1, _⟩ := (hBp.gn hu).two'; have cq := ((gb2B hu).cell (by exact hg2)).trans hcl; go_simp; try with_reducible rfl)
          try simp only [Act.put, List.setIfInBounds_toArray, List.set_cons_zero, List.set_cons_succ]
          refine wx_pure (i := 9) (d := some 47) (v := ?_) (by simp only [List.getElem?_toArray, List.getElem?_cons_succ, List.getElem?_cons_zero] <;> rfl) (by rfl) (by kernel_rfl) (by kernel_rfl) (by kernel_rfl) (fun _ _ _ h => h) (by rfl) ?_ ?_
          rotate_left
          · ((intro u); go_simp; try with_reducible rfl)
          try simp only [Act.put, List.setIfInBounds_toArray, List.set_cons_zero, List.set_cons_succ]
          refine wx_take (i := 10) (d := some 48) (v := ?_) (by simp only [List.getElem?_toArray, List.getElem?_cons_succ, List.getElem?_cons_zero] <;> rfl) (by rfl) (by kernel_rfl) (by kernel_rfl) (by kernel_rfl) (fun _ _ _ h => h) (by rfl) (by kernel_rfl) ?_ ?_
          rotate_left
          · ((intro u hu); obtain ⟨c0, c1, _⟩ := (hBp.gn hu).two'; have cq := ((gb2B hu).cell (by exact hg2)).trans hcl; go_simp; try with_reducible rfl)
          try simp only [Act.put, List.setIfInBounds_toArray, List.set_cons_zero, List.set_cons_succ]
          refine wx_one (i := 11) (by simp only [List.getElem?_toArray, List.getElem?_cons_succ, List.getElem?_cons_zero] <;> rfl) (by kernel_rfl) (by rfl) (fun K hK => ?_)
          go_simp
          go_simp
          refine hK.out _ _ (gb_refl _ _) ?_
          clear hK K
          try simp only [Act.put, List.setIfInBounds_toArray, List.set_cons_zero, List.set_cons_succ]
          refine wx_pure (i := 12) (d := some 50) (v := ?_) (by simp only [List.getElem?_toArray, List.getElem?_cons_succ, List.getElem?_cons_zero] <;> rfl) (by rfl) (by kernel_rfl) (by kernel_rfl) (by kernel_rfl) (fun _ _ _ h => h) (by rfl) ?_ ?_
          rotate_left
          · ((intro u); go_simp; try with_reducible rfl)
          try simp only [Act.put, List.setIfInBounds_toArray, List.set_cons_zero, List.set_cons_succ]
          refine wx_pure (i := 13) (d := some 51) (v := ?_) (by simp only [List.getElem?_toArray, List.getElem?_cons_succ, List.getElem?_cons_zero] <;> rfl) (by rfl) (by kernel_rfl) (by kernel_rfl) (by kernel_rfl) (fun _ _ _ h => h) (by rfl) ?_ ?_
          rotate_left
          · ((intro u); go_simp; try with_reducible rfl)
          try simp only [Act.put, List.setIfInBounds_toArray, List.set_cons_zero, List.set_cons_succ]
          refine wx_store (i := 14) (by simp only [List.getElem?_toArray, List.getElem?_cons_succ, List.getElem?_cons_zero] <;> rfl) (by kernel_rfl) (by rfl) (by kernel_rfl) (fun K hK => ?_)
          go_simp
          refine hK.out _ _ ?_
          clear hK K
          try simp only [Act.put, List.setIfInBounds_toArray, List.set_cons_zero, List.set_cons_succ]
          refine wx_done (by kernel_rfl) ?_ _
          skip
          have hset := own_setLast hown hL1.out (max q2 y)
          have hb3 : Below w2.heap.size w2 (_ : World) := hbw.setCell (p := ⟨g, r.length * 2 + 1, none⟩) (by exact hg1) (.int .i64 (max q2 y))
          rw [htn.out] at hset hb3
          clear hown hbw
          go_wp2_with fail
          go_roundw
          case rel => exact ⟨k + 1, (q1, max q2 y) :: r, by omega, by go_num, by rw [List.length_cons, ← hL1.out]; exact hset, hb3, hJ2, Lib.hid (by have := hRl.out; rw [List.length_cons, ← hL1.out]; exact Nat.le_succ_of_le this)⟩
          case measure => simp [intOf]; omega
    · have hkn : k = n := by omega
      obtain ⟨A', cap', rfl, hSr⟩ := slP_own (ps := R.reverse) (by rw [List.length_reverse]; exact hown)
      rw [List.length_reverse] at hSr ⊢
      have hJn := hJ.out
      rw [List.take_of_length_le (by have := h1.out; omega)] at hJn
      obtain ⟨j1, j2, _⟩ := hJn
      have hfin := Lib.hid (show CanR 65536 R ∧ (∀ k, InP R k ↔ InP ps k) ∧ R.length ≤ 12 from ⟨j1, fun k => (j2 k).trans (inP_perm hperm.out k), by have := hRl.out; omega⟩)
      clear hown hJ j1 j2 hkn
      go_wp2_with fail
      go_ret
      exact ⟨R, A', cap', rfl, hSr, hfin.out.1, hfin.out.2.1, hfin.out.2.2, hb2.trans (hbw.mono hb2.size)⟩
end Go.Proofs.Ytigbbpgfblnboaa
