/- Packets that are read: copies, protocols, addresses. -/
import Derived.Test.YtigbbpgfblnboaaRdB
import Derived.Test.YtigbbpgfblnboaaPkQ
namespace Go.Proofs.Ytigbbpgfblnboaa
open Go.RowKit
set_option linter.unusedVariables false
set_option linter.unusedSimpArgs false

theorem Own.made (w : World) (t : TypeId) : Own w.heap.size (w.alloc (.cells #[] 5)) (.slice (some ⟨w.heap.size, 0, none⟩) 0 0) [] := Own.lit w [] 0 rfl (by decide)
set_option maxHeartbeats 2000000 in
set_option maxRecDepth 100000 in
theorem cloneB_any (A : Option Addr) (n cap : Nat) (bs : List Nat) (w : World) (hS : SlB w A n cap bs) (hn : n ≤ 100000) :
    Calls Try.prog 60 #[.slice A n cap] w (GivesB bs w) := by
  have q22 : ∀ (w : World) (a : Option Addr) (n c n' c' : Nat), (binOp .eql 43 (.slice a n c) (.slice none n' c')).run Try.prog w = .ok (.bool a.isNone) w := fun w a n c n' c' => Lib.run_eql_slice_nil w _ _ a n c n' c' Try.underlying43
  obtain ⟨i0, hi0, hz0, hz1, hz2⟩ := info_parts8 info_u8
  have hl := Lib.hid hS.len
  have hS := Lib.hid hS
  cases A with
  | none =>
    have hps : bs = [] := by
      rcases hS.out.2.2 with h | ⟨g, off, h, _⟩
      · exact List.length_eq_zero_iff.1 (by have := hl.out; omega)
      · cases h
    subst hps
    obtain rfl : n = 0 := by simpa using hl.out
    clear hl
    go_enter Try.func60, Try.ntmps60
    go_wp2_with fail
    go_ret
    exact ⟨_, rfl, Own.nil _ _, Below.refl _ _⟩
  | some a =>
    go_enter Try.func60, Try.ntmps60
    go_wp2_with (at_builtin; refine append_slB rfl _ _ rfl w.heap.size _ 0 [] rfl (Own.made w 5) (some a) n cap bs rfl (hS.out.below ((Below.refl _ _).alloc (Nat.le_refl _) _)) (fun h => by cases h) (by omega) (by simp) ?_)
    intro v' w1 hown hgrow
    have hB := ((Below.refl _ w).alloc (Nat.le_refl _) _).grown hgrow (by simp) (by intro k hk; simp [Value.ownBlock] at hk; omega)
    have ho : Hid (Own w.heap.size w1 v' bs) := Lib.hid (by unfold Own; rw [← hl.out]; simpa using hown)
    clear hgrow hown
    go_wp2_with fail
    go_ret
    exact ⟨_, rfl, ho.out, hB⟩
theorem be_zero2 : be (0 : Int).toNat 2 = [0, 0] := by decide
set_option maxHeartbeats 2000000 in
set_option maxRecDepth 100000 in
theorem withoutSum_any (A : Option Addr) (n cap k : Nat) (bs : List Nat) (w : World) (hS : SlB w A n cap bs) (hk : k + 2 ≤ n) (hn : n ≤ 100000) :
    Calls Try.prog 77 #[.slice A n cap, .int .i64 k] w (GivesB (splice bs k [0, 0]) w) := by
  have HC := Lib.hid (cloneB_any A n cap bs w hS hn)
  have hlb := Lib.hid hS.len
  clear hS
  go_enter Try.func77, Try.ntmps77
  go_wp2_with fail
  refine HC.out.mono ?_
  rintro e w1 ⟨v1, rfl, ho1, hb1⟩
  obtain ⟨g, c1, rfl, hs1⟩ := ho1.form (by have := hlb.out; omega)
  rw [← hlb.out] at ho1 hs1 ⊢
  have HP := Lib.hid (putSum_any w.heap.size g c1 n k bs 0 w1 ho1 hk (by omega) (by omega) hb1.size)
  rw [be_zero2] at HP
  clear ho1 hs1 HC
  go_wp2_with fail
  refine HP.out.mono ?_
  rintro e w2 ⟨rfl, ho2, hb2⟩
  clear HP
  replace ho2 := Lib.hid ho2
  go_wp2_with fail
  go_ret
  exact ⟨_, rfl, ho2.out, hb1.trans hb2⟩

/-- A packet's block in turn: all other old blocks are as they were. -/
structure RdP (w : World) (pb : Nat) (q : Pk) (v : Value) (w' : World) : Prop where
  blk : Blk w' pb (pkL q v) 45
  gb : w.grownBy w' (some pb)
theorem RdP.refl {w : World} {pb : Nat} {q : Pk} {v : Value} (h : Blk w pb (pkL q v) 45) : RdP w pb q v w := ⟨h, gb_refl _ _⟩
theorem RdP.below {w w' w'' : World} {pb : Nat} {q : Pk} {v : Value} (h : RdP w pb q v w') (hb : Below w'.heap.size w' w'') : RdP w pb q v w'' := ⟨h.blk.below hb, gb_below h.gb hb⟩
theorem RdP.drew {w w' : World} {pb : Nat} {q : Pk} {v : Value} (h : RdP w pb q v w') : RdP w pb q v w'.drew := ⟨h.blk, gb_drew h.gb⟩
theorem RdP.alloc {w w' : World} {pb : Nat} {q : Pk} {v : Value} (h : RdP w pb q v w') (o : Obj) : RdP w pb q v (w'.alloc o) := ⟨h.blk.alloc o, gb_alloc h.gb o⟩
theorem RdP.trans {w w' w'' : World} {pb : Nat} {q q' : Pk} {v v' : Value} (h : RdP w pb q v w') (k : RdP w' pb q' v' w'') : RdP w pb q' v' w'' := ⟨k.blk, gb_trans h.gb k.gb⟩
theorem gb_setSelf {a b : World} {p i : Nat} (h : a.grownBy b (some p)) (v : Value) : a.grownBy (b.setCell ⟨p, i, none⟩ v) (some p) :=
  ⟨h.os, h.tape, h.output, by simpa [World.setCell] using h.size, fun j hj hne => (Below.heap_setCell _ _ _ _ (by intro e; exact hne (by rw [e]))).trans (h.block j hj hne)⟩
theorem RdP.set {w w' : World} {pb : Nat} {q q' : Pk} {v v' : Value} (h : RdP w pb q v w') (i : Nat) (x : Value) (he : (pkL q v).set i x = pkL q' v') : RdP w pb q' v' (w'.setCell ⟨pb, i, none⟩ x) :=
  ⟨by have := h.blk.set i x; rwa [he] at this, gb_setSelf h.gb x⟩
/-- A slice in a block that is not turned. -/
theorem SlB.same {w w' : World} {g off n cap : Nat} {bs : List Nat} (h : SlB w (some ⟨g, off, none⟩) n cap bs) (hs : w.heap.size ≤ w'.heap.size) (hk : g < w.heap.size → w'.heap[g]? = w.heap[g]?) : SlB w' (some ⟨g, off, none⟩) n cap bs := by
  refine ⟨h.1, h.2.1, ?_⟩
  rcases h.2.2 with h0 | ⟨g', off', hA, hg, hc⟩
  · exact .inl h0
  · cases hA
    exact .inr ⟨g, off, rfl, by omega, fun j u hu => by rw [World.cell?_of_block (w := w) (hk hg)]; exact hc j u hu⟩
theorem SlB.rdp {w w' : World} {pb : Nat} {q : Pk} {v : Value} {g off n cap : Nat} {bs : List Nat} (h : SlB w (some ⟨g, off, none⟩) n cap bs) (hr : RdP w pb q v w') (hne : g ≠ pb) : SlB w' (some ⟨g, off, none⟩) n cap bs :=
  h.same hr.gb.size fun hg => hr.gb.block g hg (by intro e; cases e; exact hne rfl)

theorem protoN_in0 (six : Bool) (c : Nat) : protoN six c = if (c : Int) = codeN 1 six then 1 else if (c : Int) = 6 then 6 else if (c : Int) = 17 then 17 else 0 := by
  unfold protoN codeN
  cases six <;> simp <;> (repeat' split) <;> first | rfl | omega
set_option maxHeartbeats 2000000 in
set_option maxRecDepth 100000 in
theorem protoOf_any (c : Nat) (six : Bool) (w : World) (hc : c < 256) :
    Calls Try.prog 100 #[.int .u8 c, .bool six] w fun e w' => e = .returned (.tuple #[.int .i64 (protoN six c), .bool (!decide (protoN six c = 0))]) ∧ w = w' := by
  have x0 : ∀ W, (Instr.index 135 (.agg #[.int .i64 1, .int .i64 6, .int .i64 17]) (.int .i64 0)).run Try.prog W = .ok (.int .i64 1) W := fun _ => by kernel_rfl
  have x1 : ∀ W, (Instr.index 135 (.agg #[.int .i64 1, .int .i64 6, .int .i64 17]) (.int .i64 1)).run Try.prog W = .ok (.int .i64 6) W := fun _ => by kernel_rfl
  have x2 : ∀ W, (Instr.index 135 (.agg #[.int .i64 1, .int .i64 6, .int .i64 17]) (.int .i64 2)).run Try.prog W = .ok (.int .i64 17) W := fun _ => by kernel_rfl
  have HP1 := Lib.hid (fun w' => proto_any 1 six w')
  have HP2 := Lib.hid (fun w' => proto_any 6 six w')
  have HP3 := Lib.hid (fun w' => proto_any 17 six w')
  rw [show codeN 6 six = 6 from if_neg (by simp)] at HP2
  rw [show codeN 17 six = 17 from if_neg (by simp)] at HP3
  have hN := Lib.hid (protoN_in0 six c)
  have ha : 0 ≤ codeN 1 six ∧ codeN 1 six ≤ 100 := by unfold codeN; split <;> omega
  generalize codeN 1 six = a at HP1 hN ha
  generalize protoN six c = N at hN ⊢
  obtain ⟨z, hz⟩ : ∃ z : Int, z = (c : Int) := ⟨_, rfl⟩
  have hz0 : 0 ≤ z := by omega
  have hz1 : z < 256 := by omega
  rw [← hz] at hN ⊢
  clear hz hc
  by_cases h1 : z = a
  · have hE := Lib.hid (show N = 1 by rw [hN.out, if_pos h1])
    clear hN
    subst h1
    go_enter Try.func100, Try.ntmps100
    go_wp2_with fail
    refine wp_loop_rounds 4 ?_
    rw [rounds_succ]
    go_wp2_with fail
    refine (HP1.out _).mono ?_
    rintro e w1 ⟨rfl, rfl⟩
    go_wp2_with fail
    refine bodyPost_ret (v := .tuple #[.int .i64 1, .bool true]) ?_ rfl ⟨by rw [hE.out]; rfl, rfl⟩
    simp [results, Try.results100, go_sem]
  · have e1 : (a == z) = false := by simp; omega
    by_cases h2 : z = 6
    · have hE := Lib.hid (show N = 6 by rw [hN.out, if_neg h1, if_pos h2])
      clear hN
      replace h1 := Lib.hid h1
      subst h2
      go_enter Try.func100, Try.ntmps100
      go_wp2_with fail
      refine wp_loop_rounds 4 ?_
      rw [rounds_succ]
      go_wp2_with fail
      refine (HP1.out _).mono ?_
      rintro e w1 ⟨rfl, rfl⟩
      go_wp2_with fail
      rw [rounds_succ]
      go_wp2_with fail
      refine (HP2.out _).mono ?_
      rintro e w1 ⟨rfl, rfl⟩
      go_wp2_with fail
      refine bodyPost_ret (v := .tuple #[.int .i64 6, .bool true]) ?_ rfl ⟨by rw [hE.out]; rfl, rfl⟩
      simp [results, Try.results100, go_sem]
    · have e2 : (6 == z) = false := by simp; omega
      by_cases h3 : z = 17
      · have hE := Lib.hid (show N = 17 by rw [hN.out, if_neg h1, if_neg h2, if_pos h3])
        clear hN
        replace h1 := Lib.hid h1
        replace h2 := Lib.hid h2
        subst h3
        go_enter Try.func100, Try.ntmps100
        go_wp2_with fail
        refine wp_loop_rounds 4 ?_
        rw [rounds_succ]
        go_wp2_with fail
        refine (HP1.out _).mono ?_
        rintro e w1 ⟨rfl, rfl⟩
        go_wp2_with fail
        rw [rounds_succ]
        go_wp2_with fail
        refine (HP2.out _).mono ?_
        rintro e w1 ⟨rfl, rfl⟩
        go_wp2_with fail
        rw [rounds_succ]
        go_wp2_with fail
        refine (HP3.out _).mono ?_
        rintro e w1 ⟨rfl, rfl⟩
        go_wp2_with fail
        refine bodyPost_ret (v := .tuple #[.int .i64 17, .bool true]) ?_ rfl ⟨by rw [hE.out]; rfl, rfl⟩
        simp [results, Try.results100, go_sem]
      · have e3 : (17 == z) = false := by simp; omega
        have hE := Lib.hid (show N = 0 by rw [hN.out, if_neg h1, if_neg h2, if_neg h3])
        clear hN
        replace h1 := Lib.hid h1
        replace h2 := Lib.hid h2
        replace h3 := Lib.hid h3
        go_enter Try.func100, Try.ntmps100
        go_wp2_with fail
        refine wp_loop_rounds 4 ?_
        rw [rounds_succ]
        go_wp2_with fail
        refine (HP1.out _).mono ?_
        rintro e w1 ⟨rfl, rfl⟩
        go_wp2_with fail
        rw [rounds_succ]
        go_wp2_with fail
        refine (HP2.out _).mono ?_
        rintro e w1 ⟨rfl, rfl⟩
        go_wp2_with fail
        rw [rounds_succ]
        go_wp2_with fail
        refine (HP3.out _).mono ?_
        rintro e w1 ⟨rfl, rfl⟩
        go_wp2_with fail
        rw [rounds_succ]
        go_wp2_with fail
        refine bodyPost_ret (v := .tuple #[.int .i64 0, .bool false]) ?_ rfl ⟨by rw [hE.out]; rfl, rfl⟩
        simp [results, Try.results100, go_sem]

set_option maxHeartbeats 2000000 in
theorem addr4_any (A : Option Addr) (cap : Nat) (bs : List Nat) (w : World) (hS : SlB w A 4 cap bs) (hb : Byt bs) :
    Calls Try.prog 80 #[.slice A 4 cap] w (GivesV (.agg #[.bool false, .int .u64 0, .int .u64 (numF bs)]) w) := by
  have HN := Lib.hid (fun w' h => numberOf_any A 4 cap bs w' h (by omega) hb)
  have hR := Blk.new w [.bool false, .int .u64 0, .int .u64 0] 42
  have hw : Below w.heap.size w (w.alloc (.cells #[.bool false, .int .u64 0, .int .u64 0] 42)) := (Below.refl _ _).alloc (Nat.le_refl _) _
  have HN1 := Lib.hid (HN.out _ (hS.below hw))
  replace hw := Lib.hid hw
  replace hR := Lib.hid hR
  clear HN hS hb
  generalize (numF bs : Int) = N at HN1 ⊢
  go_enter Try.func80, Try.ntmps80
  go_wp2_with fail
  refine HN1.out.mono ?_
  rintro e w1 ⟨rfl, hb1⟩
  replace hR := hR.out.below hb1
  replace hw := hw.out.trans (hb1.mono hw.out.size)
  obtain ⟨c0, c1, c2, f0, f1, f2⟩ := hR.three
  go_wp2_with fail
  refine bodyPost_ret (v := adV false 0 N) (results_cell_row rfl _ _ w.heap.size _ _ (0, 0) _ rfl (((hR.set 0 (.bool false)).set 1 (.int .u64 0)).set 2 (.int .u64 N)) Try.underlying42 rfl (by kernel_rfl)) rfl ⟨rfl, ?_⟩
  exact ((hw.setCell (p := ⟨w.heap.size, 0, none⟩) (Nat.le_refl _) _).setCell (p := ⟨w.heap.size, 1, none⟩) (Nat.le_refl _) _).setCell (p := ⟨w.heap.size, 2, none⟩) (Nat.le_refl _) _
set_option maxHeartbeats 2000000 in
set_option maxRecDepth 100000 in
theorem addr16_any (g off cap : Nat) (bs : List Nat) (w : World) (hS : SlB w (some ⟨g, off, none⟩) 16 cap bs) (hb : Byt bs) :
    Calls Try.prog 80 #[.slice (some ⟨g, off, none⟩) 16 cap] w (GivesV (.agg #[.bool true, .int .u64 (nb bs 0 8), .int .u64 (nb bs 8 8)]) w) := by
  have hR := Lib.hid (Blk.new w [.bool false, .int .u64 0, .int .u64 0] 42)
  have hcap : (16 : Int) ≤ cap := by have := hS.2.1; omega
  have hcap8 : (8 : Int) ≤ cap := by omega
  have hne : ¬ cap = 8 := by omega
  have hw : Hid (Below w.heap.size w (w.alloc (.cells #[.bool false, .int .u64 0, .int .u64 0] 42))) := Lib.hid ((Below.refl _ _).alloc (Nat.le_refl _) _)
  replace hS := Lib.hid (hS.below hw.out)
  replace hb := Lib.hid hb
  go_enter Try.func80, Try.ntmps80
  go_wp2_with fail
  refine wb_begin ([]) [] (by kernel_rfl) (fun u0 hb0' hz0' => ?_)
  replace hS := Lib.hid (hS.out.below hb0')
  replace hR := Lib.hid (hR.out.below hb0')
  replace hw := Lib.hid (hw.out.trans (hb0'.mono hw.out.size))
  clear hb0' hz0'
  refine wb_pure (i := 0) (d := some 9) (v := ?_) (by simp only [List.getElem?_toArray, List.getElem?_cons_succ, List.getElem?_cons_zero] <;> rfl) (by rfl) (by kernel_rfl) (by kernel_rfl) (by kernel_rfl) (fun _ _ _ h => h) (by rfl) ?_ ?_
  rotate_left
  · ((intro u); go_simp; try with_reducible rfl)
  try simp only [Act.put, List.setIfInBounds_toArray, List.set_cons_zero, List.set_cons_succ]
  refine wb_pure (i := 1) (d := some 10) (v := ?_) (by simp only [List.getElem?_toArray, List.getElem?_cons_succ, List.getElem?_cons_zero] <;> rfl) (by rfl) (by kernel_rfl) (by kernel_rfl) (by kernel_rfl) (fun _ _ _ h => h) (by rfl) ?_ ?_
  rotate_left
  · ((intro u); go_simp; try with_reducible rfl)
  try simp only [Act.put, List.setIfInBounds_toArray, List.set_cons_zero, List.set_cons_succ]
  refine wb_pure (i := 3) (d := some 12) (v := ?_) (by simp only [List.getElem?_toArray, List.getElem?_cons_succ, List.getElem?_cons_zero] <;> rfl) (by rfl) (by kernel_rfl) (by kernel_rfl) (by kernel_rfl) (fun _ _ _ h => h) (by rfl) ?_ ?_
  rotate_left
  · ((intro u); go_simp; try with_reducible rfl)
  try simp only [Act.put, List.setIfInBounds_toArray, List.set_cons_zero, List.set_cons_succ]
  refine wb_pure (i := 4) (d := some 13) (v := ?_) (by simp only [List.getElem?_toArray, List.getElem?_cons_succ, List.getElem?_cons_zero] <;> rfl) (by rfl) (by kernel_rfl) (by kernel_rfl) (by kernel_rfl) (fun _ _ _ h => h) (by rfl) ?_ ?_
  rotate_left
  · ((intro u); go_simp; try with_reducible rfl)
  try simp only [Act.put, List.setIfInBounds_toArray, List.set_cons_zero, List.set_cons_succ]
  refine wb_one (i := 2) (by simp only [List.getElem?_toArray, List.getElem?_cons_succ, List.getElem?_cons_zero] <;> rfl) (by kernel_rfl) (by rfl) (fun K hK => ?_)
  go_simp
  refine (numberOf_any _ 8 _ ((bs.drop 0).take 8) _ (hS.out.part 0 8 _ (by omega) (by omega)) (by omega) (hb.out.sub 0 8)).mono ?_
  rintro e u2 ⟨rfl, hv2⟩
  refine hK.out _ _ (fun p hp => by cases hp) ?_
  replace hS := Lib.hid (hS.out.below hv2)
  replace hw := Lib.hid (hw.out.trans (hv2.mono hw.out.size))
  replace hR := Lib.hid (hR.out.below hv2)
  clear hK K hv2
  try simp only [Act.put, List.setIfInBounds_toArray, List.set_cons_zero, List.set_cons_succ]
  refine wb_one (i := 5) (by simp only [List.getElem?_toArray, List.getElem?_cons_succ, List.getElem?_cons_zero] <;> rfl) (by kernel_rfl) (by rfl) (fun K hK => ?_)
  go_simp
  refine (numberOf_any _ 8 _ ((bs.drop 8).take 8) _ (hS.out.part 8 8 _ (by omega) (by omega)) (by omega) (hb.out.sub 8 8)).mono ?_
  rintro e u5 ⟨rfl, hv5⟩
  refine hK.out _ _ (fun p hp => by cases hp) ?_
  replace hS := Lib.hid (hS.out.below hv5)
  replace hw := Lib.hid (hw.out.trans (hv5.mono hw.out.size))
  replace hR := Lib.hid (hR.out.below hv5)
  clear hK K hv5
  try simp only [Act.put, List.setIfInBounds_toArray, List.set_cons_zero, List.set_cons_succ]
  refine wb_pure (i := 6) (d := some 15) (v := ?_) (by simp only [List.getElem?_toArray, List.getElem?_cons_succ, List.getElem?_cons_zero] <;> rfl) (by rfl) (by kernel_rfl) (by kernel_rfl) (by kernel_rfl) (fun _ _ _ h => h) (by rfl) ?_ ?_
  rotate_left
  · ((intro u); go_simp; try with_reducible rfl)
  try simp only [Act.put, List.setIfInBounds_toArray, List.set_cons_zero, List.set_cons_succ]
  refine wb_one (i := 7) (by simp only [List.getElem?_toArray, List.getElem?_cons_succ, List.getElem?_cons_zero] <;> rfl) (by kernel_rfl) (by rfl) (fun K hK => ?_)
  obtain ⟨c0, c1, c2, f0, f1, f2⟩ := hR.out.three
  go_simp
  refine hK.out _ _ (fun p hp => by cases hp) ?_
  clear hK K c0 c1 c2 f0 f1 f2
  try simp only [Act.put, List.setIfInBounds_toArray, List.set_cons_zero, List.set_cons_succ]
  refine wb_done (by kernel_rfl) ?_ _
  go_wp2_with fail
  refine bodyPost_ret (v := adV true (nb bs 0 8) (nb bs 8 8)) (results_cell_row rfl _ _ w.heap.size _ _ (0, 0) _ rfl (((hR.out.set 0 (.bool true)).set 1 (.int .u64 (nb bs 0 8))).set 2 (.int .u64 (nb bs 8 8))) Try.underlying42 rfl (by kernel_rfl)) rfl ⟨rfl, ?_⟩
  exact ((hw.out.setCell (p := ⟨w.heap.size, 0, none⟩) (Nat.le_refl _) _).setCell (p := ⟨w.heap.size, 1, none⟩) (Nat.le_refl _) _).setCell (p := ⟨w.heap.size, 2, none⟩) (Nat.le_refl _) _
end Go.Proofs.Ytigbbpgfblnboaa
