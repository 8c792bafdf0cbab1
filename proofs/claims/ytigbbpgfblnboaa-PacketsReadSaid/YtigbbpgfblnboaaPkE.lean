/- Packets: a row of bytes of one's own; addresses as bytes, protocols. -/
import Derived.Test.YtigbbpgfblnboaaPkD
import Derived.Test.YtigbbpgfblnboaaWaysB
import Derived.Deep.Onto
namespace Go.Proofs.Ytigbbpgfblnboaa
open Go.RowKit
set_option linter.unusedVariables false
set_option linter.unusedSimpArgs false

/-- A slice of bytes in a row of one's own, which lies from block B on. -/
def Own (B : Nat) (w : World) (v : Value) (bs : List Nat) : Prop := w.ownsRow B 5 1 v bs.length (bV bs)
theorem Own.mono {B B' : Nat} {w : World} {v : Value} {bs : List Nat} (h : Own B' w v bs) (hb : B ≤ B') : Own B w v bs := World.ownsRow.mono h hb
theorem Own.below {B : Nat} {w w' : World} {v : Value} {bs : List Nat} (h : Own B w v bs) (hb : Below w.heap.size w w') : Own B w' v bs :=
  World.ownsRow.kept (row := none) h (gbB hb) (by
    cases hv : v.ownBlock with
    | none => exact .inl rfl
    | some k => exact .inr (by intro e; cases e))
theorem Own.nil (B : Nat) (w : World) : Own B w (.slice none 0 0) [] := World.ownsRow_nil _ _ _ _
theorem Own.lt {B : Nat} {w : World} {v : Value} {bs : List Nat} (h : Own B w v bs) : ∀ k, v.ownBlock = some k → B ≤ k ∧ k < w.heap.size := World.ownsRow.lt h
theorem Own.sl {B : Nat} {w : World} {v : Value} {bs : List Nat} (h : Own B w v bs) : ∃ A cap, v = .slice A bs.length cap ∧ SlB w A bs.length cap bs ∧ (A = none → cap = 0) := by
  obtain ⟨A, cap, rfl, hS⟩ := Sl.of_own h
  refine ⟨A, cap, rfl, hS, fun hA => ?_⟩
  rcases h.2 with ⟨hv, _⟩ | ⟨g, c, cur, hv, _⟩
  · injection hv
  · rw [hA] at hv; injection hv with h1; cases h1
theorem Own.lit (w : World) (bs : List Nat) (n : Nat) (hn : n = bs.length) (hm : n ≤ maxLen) : Own w.heap.size (w.alloc (.cells (bV bs).toArray 5)) (.slice (some ⟨w.heap.size, 0, none⟩) n n) bs := by
  subst hn
  have h := World.ownsRow_lit (base := w.heap.size) (e := 5) (size := 1) w (bV bs).toArray bs.length (Nat.le_refl _) hm (by simp [bV])
  exact h
theorem Blk.upB {w w' : World} {p B : Nat} {cs : List Value} {t : TypeId} (h : Blk w p cs t) (hp : p < B) (hb : Below B w w') : Blk w' p cs t := (hb.block p hp).trans h

theorem Blk.gbn {w w' : World} {p : Nat} {o : Option Nat} {cs : List Value} {t : TypeId} (h : Blk w p cs t) (hg : w.grownBy w' o) (hne : o ≠ some p) : Blk w' p cs t := (hg.block p h.lt (fun e => hne e.symm)).trans h

theorem frB {u u0 u' : World} {v v' : Value} (h : Below u.heap.size u u0) (k : Fr u0 u' v v') : Fr u u' v v' :=
  ⟨gb_trans (gbB h) k.gb, fun p hp hne => k.at' p (Nat.lt_of_lt_of_le hp h.size) hne⟩
theorem number_own (B size : Nat) (v : Value) (xs : List Nat) (z : Int) (w : World) (hown : Own B w v xs) (hbase : B ≤ w.heap.size) (hm : xs.length ≤ 100000) (hs : size ≤ 8) (h0 : 0 ≤ z) (h1 : z < 18446744073709551616) :
    Calls Try.prog 72 #[v, .int .i64 size, .int .u64 z] w fun e w' => ∃ v', e = .returned v' ∧ Own B w' v' (xs ++ be z.toNat size) ∧ Below B w w' ∧ Fr w w' v v' := by
  refine (number_any B xs.length size v xs z w hown hbase hm hs h0 h1).mono ?_
  rintro e w' ⟨v', rfl, h, hb⟩
  exact ⟨v', rfl, by unfold Own; rw [List.length_append, be_len]; exact h, hb⟩
theorem big_own (size : Nat) (z : Int) (w : World) (hs : size ≤ 8) (h0 : 0 ≤ z) (h1 : z < 18446744073709551616) :
    Calls Try.prog 53 #[.int .u64 z, .int .i64 size] w fun e w' => ∃ v', e = .returned v' ∧ Own w.heap.size w' v' (be z.toNat size) ∧ Below w.heap.size w w' := by
  refine (big_any size z w hs h0 h1).mono ?_
  rintro e w' ⟨v', rfl, h, hb⟩
  exact ⟨v', rfl, by unfold Own; rw [be_len]; exact h, hb⟩

/-- append of a slice to one's own row, as one operation. -/
theorem wp_append_slB_fr {w : World} {o : Oper} {a : Act} {K : Act → World → Prop} {Q : Exit → Act → World → Prop} (s x : Operand)
    (ho : o.op = .call { callee := .builtin .append, args := #[s, x], argTypes := #[43, 43] })
    (B : Nat) (v : Value) (xs : List Nat) (hs : a.eval s = v) (hown : Own B w v xs)
    (A : Option Addr) (m c : Nat) (gs : List Nat) (hx : a.eval x = .slice A m c) (hS : SlB w A m c gs) (hA : A = none → c = 0) (hb : xs.length + m ≤ 1000000) (hbase : B ≤ w.heap.size)
    (h : ∀ v' w', Own B w' v' (xs ++ gs) → w.grownBy w' v.ownBlock → Fr w w' v v' → K (a.put o.dst v') w') : Oper.wp Try.prog o a w K Q := by
  obtain ⟨i0, hi0, hz0, hz1, hz2⟩ := info_parts8 info_u8
  have hl := hS.len
  cases A with
  | none =>
    obtain rfl := hA rfl
    have hm : m = 0 := by
      rcases hS.2.2 with h0 | ⟨_, _, h0, _⟩
      · exact h0
      · cases h0
    subst hm
    have hg : gs = [] := List.eq_nil_of_length_eq_zero hl.symm
    subst hg
    have hrun := run_append_owned_none (P := Try.prog) (w := w) B 43 o.type 5 i0 1 Try.underlying43 hi0 v xs.length (bV xs) hown
    unfold Oper.wp
    simp [execOp, ho, resolve, invoke, builtin, hs, hx, hrun, Result.andThen]
    exact h _ _ (by rw [List.append_nil]; exact hown) (World.grownBy.refl _ _) (Fr.refl _ _)
  | some ad =>
    obtain ⟨v', w', hr, h2, h3, h4, h5⟩ := run_append_own_at (P := Try.prog) w B 43 o.type 5 i0 (.int .u8 0) 1 1 Try.underlying43 hi0 hz0 hz1 hz2 rfl (by decide) v xs.length (bV xs) hown ad m c (bV gs) (by rw [Nat.mul_one]; exact hS.1.symm) (fun j u hj => by
      rcases hS.2.2 with h0 | ⟨g, off, h0, _, h2⟩
      · have h1 : (bV gs).length = 0 := by rw [← hS.1]; exact h0
        rw [List.eq_nil_of_length_eq_zero h1] at hj
        cases hj
      · cases h0
        have e : Addr.add ⟨g, off, none⟩ j = ⟨g, off + j, none⟩ := by
          unfold Addr.add
          split
          · rename_i h; subst h; rfl
          · rfl
        rw [e]
        exact h2 j u hj) (fun u hu => by
      obtain ⟨g, _, rfl⟩ := List.mem_map.1 hu
      rfl) (by unfold maxLen; omega) (by omega) hbase
    unfold Oper.wp execOp
    simp only [ho, resolve, invoke, builtin, Sem.run_bind, Sem.run_pure, Result.andThen_ok, List.map_toArray, List.map_cons, List.map_nil, hs, hx, hr]
    refine h v' w' ?_ h3 (Fr.step h3 h5)
    unfold Own
    rw [List.length_append, bV_app, ← hl]
    exact h2
theorem wp_append_slB {w : World} {o : Oper} {a : Act} {K : Act → World → Prop} {Q : Exit → Act → World → Prop} (s x : Operand)
    (ho : o.op = .call { callee := .builtin .append, args := #[s, x], argTypes := #[43, 43] })
    (B : Nat) (v : Value) (xs : List Nat) (hs : a.eval s = v) (hown : Own B w v xs)
    (A : Option Addr) (m c : Nat) (gs : List Nat) (hx : a.eval x = .slice A m c) (hS : SlB w A m c gs) (hA : A = none → c = 0) (hb : xs.length + m ≤ 1000000) (hbase : B ≤ w.heap.size)
    (h : ∀ v' w', Own B w' v' (xs ++ gs) → w.grownBy w' v.ownBlock → K (a.put o.dst v') w') : Oper.wp Try.prog o a w K Q :=
  wp_append_slB_fr s x ho B v xs hs hown A m c gs hx hS hA hb hbase (fun v' w' h1 h2 _ => h v' w' h1 h2)
theorem own_next {B : Nat} {w w' : World} {v : Value} {xs : List Nat} (hg : w.grownBy w' v.ownBlock) (ho : Own B w v xs) (hb : B ≤ w.heap.size) : Below B w w' :=
  (Below.refl _ _).grown hg hb (fun k h => (ho.lt k h).1)

/-- An address as bytes. -/
def adB (s : Bool) (hi lo : Int) : List Nat := if s then be hi.toNat 8 ++ be lo.toNat 8 else be lo.toNat 4
theorem adB_len (s : Bool) (hi lo : Int) : (adB s hi lo).length ≤ 16 := by unfold adB; split <;> simp [be_len]
theorem adB_byt (s : Bool) (hi lo : Int) : Byt (adB s hi lo) := by
  unfold adB; split
  · exact Byt.app (be_lt _ _) (be_lt _ _)
  · exact be_lt _ _
def Wd (hi lo : Int) : Prop := 0 ≤ hi ∧ hi < 18446744073709551616 ∧ 0 ≤ lo ∧ lo < 18446744073709551616

set_option maxHeartbeats 2000000 in
set_option maxRecDepth 100000 in
theorem addrBytesR_any (s : Bool) (hi lo : Int) (w : World) (hr : Wd hi lo) :
    Calls Try.prog 50 #[.agg #[.bool s, .int .u64 hi, .int .u64 lo]] w fun e w' => ∃ v, e = .returned v ∧ Own w.heap.size w' v (adB s hi lo) ∧ Below w.heap.size w w' := by
  have hP := Blk.new w [.bool s, .int .u64 hi, .int .u64 lo] 42
  have hw : Below w.heap.size w (w.alloc (.cells #[.bool s, .int .u64 hi, .int .u64 lo] 42)) := (Below.refl _ _).alloc (Nat.le_refl _) _
  obtain ⟨B, hB⟩ : ∃ B, B = w.heap.size + 1 := ⟨_, rfl⟩
  obtain ⟨c0, c1, c2, _⟩ := hP.three
  cases s
  · have HB := Lib.hid (fun w' => big_own 4 lo w' (by omega) hr.2.2.1 hr.2.2.2)
    go_enter Try.func50, Try.ntmps50
    go_wp2_with fail
    refine (HB.out _).mono ?_
    rintro e u1 ⟨v1, rfl, ho1, hv1⟩
    replace hw := hw.trans (hv1.mono hw.size)
    replace ho1 := Lib.hid (ho1.mono (B := w.heap.size) (by simp))
    clear HB hv1
    go_wp2_with fail
    go_ret
    exact ⟨_, rfl, ho1.out, hw⟩
  · replace hr := Lib.hid hr
    go_enter Try.func50, Try.ntmps50
    go_wp2_with fail
    have hz := hw.size
    clear c0 c1 c2
    refine wb_begin ([w.heap.size]) [] (by kernel_rfl) (fun u0 hb0' hz0' => ?_)
    replace hP := hP.below hb0'
    replace hw := hw.trans (hb0'.mono hw.size)
    have hBz : B ≤ u0.heap.size := by rw [hz0', hB]; simp
    clear hb0' hz0'
    refine wb_pure (i := 0) (d := some 5) (v := ?_) (by simp only [List.getElem?_toArray, List.getElem?_cons_succ, List.getElem?_cons_zero] <;> rfl) (by rfl) (by kernel_rfl) (by kernel_rfl) (by kernel_rfl) (fun _ _ _ h => h) (by rfl) ?_ ?_
    rotate_left
    · ((intro u); go_simp; try with_reducible rfl)
    try simp only [Act.put, List.setIfInBounds_toArray, List.set_cons_zero, List.set_cons_succ]
    refine wb_take (i := 1) (d := some 6) (v := ?_) (by simp only [List.getElem?_toArray, List.getElem?_cons_succ, List.getElem?_cons_zero] <;> rfl) (by rfl) (by kernel_rfl) (by kernel_rfl) (by kernel_rfl) (fun _ _ _ h => h) (by rfl) (by kernel_rfl) ?_ ?_
    rotate_left
    · ((intro u hu); obtain ⟨c0, c1, c2, _⟩ := (hP.kb hu (by simp)).three; go_simp; try with_reducible rfl)
    try simp only [Act.put, List.setIfInBounds_toArray, List.set_cons_zero, List.set_cons_succ]
    refine wb_pure (i := 3) (d := some 8) (v := ?_) (by simp only [List.getElem?_toArray, List.getElem?_cons_succ, List.getElem?_cons_zero] <;> rfl) (by rfl) (by kernel_rfl) (by kernel_rfl) (by kernel_rfl) (fun _ _ _ h => h) (by rfl) ?_ ?_
    rotate_left
    · ((intro u); go_simp; try with_reducible rfl)
    try simp only [Act.put, List.setIfInBounds_toArray, List.set_cons_zero, List.set_cons_succ]
    refine wb_take (i := 4) (d := some 9) (v := ?_) (by simp only [List.getElem?_toArray, List.getElem?_cons_succ, List.getElem?_cons_zero] <;> rfl) (by rfl) (by kernel_rfl) (by kernel_rfl) (by kernel_rfl) (fun _ _ _ h => h) (by rfl) (by kernel_rfl) ?_ ?_
    rotate_left
    · ((intro u hu); obtain ⟨c0, c1, c2, _⟩ := (hP.kb hu (by simp)).three; go_simp; try with_reducible rfl)
    try simp only [Act.put, List.setIfInBounds_toArray, List.set_cons_zero, List.set_cons_succ]
    refine wb_one (i := 2) (by simp only [List.getElem?_toArray, List.getElem?_cons_succ, List.getElem?_cons_zero] <;> rfl) (by kernel_rfl) (by rfl) (fun K hK => ?_)
    go_simp
    refine (big_own 8 hi _ (by omega) hr.out.1 hr.out.2.1).mono ?_
    rintro e u2 ⟨v2, rfl, ho2, hv2⟩
    refine hK.out _ _ (Kb.below hv2 (by simp; omega)) ?_
    replace hP := hP.below hv2
    replace hw := hw.trans (hv2.mono hw.size)
    have hz2 := hv2.size
    clear hK K hv2
    try simp only [Act.put, List.setIfInBounds_toArray, List.set_cons_zero, List.set_cons_succ]
    refine wb_one (i := 5) (by simp only [List.getElem?_toArray, List.getElem?_cons_succ, List.getElem?_cons_zero] <;> rfl) (by kernel_rfl) (by rfl) (fun K hK => ?_)
    go_simp
    refine (big_own 8 lo _ (by omega) hr.out.2.2.1 hr.out.2.2.2).mono ?_
    rintro e u5 ⟨v5, rfl, ho5, hv5⟩
    refine hK.out _ _ (Kb.below hv5 (by simp; omega)) ?_
    replace hP := hP.below hv5
    replace hw := hw.trans (hv5.mono hw.size)
    replace ho2 := (ho2.below hv5).mono (B := B) (by omega)
    have hz5 := hv5.size
    obtain ⟨A5, c5, rfl, hS5, hA5⟩ := ho5.sl
    clear hK K hv5 ho5
    try simp only [Act.put, List.setIfInBounds_toArray, List.set_cons_zero, List.set_cons_succ]
    refine wb_one (i := 6) (by simp only [List.getElem?_toArray, List.getElem?_cons_succ, List.getElem?_cons_zero] <;> rfl) (by kernel_rfl) (by rfl) (fun K hK => ?_)
    refine wp_append_slB _ _ rfl B _ (be hi.toNat 8) rfl ho2 A5 _ c5 _ rfl hS5 hA5 (by simp only [be_len]; omega) (by omega) ?_
    intro v6 u6 ho6 hg6
    have hv6 := own_next hg6 ho2 (by omega)
    refine hK.out _ _ (Kb.below hv6 (by simp; omega)) ?_
    replace hw := hw.trans (hv6.mono (by omega))
    clear hK K hv6 hg6 ho2 hS5 hA5
    try simp only [Act.put, List.setIfInBounds_toArray, List.set_cons_zero, List.set_cons_succ]
    refine wb_pure (i := 7) (d := some 2) (v := ?_) (by simp only [List.getElem?_toArray, List.getElem?_cons_succ, List.getElem?_cons_zero] <;> rfl) (by rfl) (by kernel_rfl) (by kernel_rfl) (by kernel_rfl) (fun _ _ _ h => h) (by rfl) ?_ ?_
    rotate_left
    · ((intro u); go_simp; try with_reducible rfl)
    try simp only [Act.put, List.setIfInBounds_toArray, List.set_cons_zero, List.set_cons_succ]
    refine wb_done (by kernel_rfl) ?_ _
    go_wp2_with fail
    go_ret
    exact ⟨_, rfl, ho6.mono (by omega), hw⟩

set_option maxHeartbeats 2000000 in
set_option maxRecDepth 100000 in
theorem addrBytesP_any (B0 : Nat) (v : Value) (xs : List Nat) (s : Bool) (hi lo : Int) (w : World) (hr : Wd hi lo) (ho0 : Own B0 w v xs) (hB0 : B0 ≤ w.heap.size) (hm : xs.length ≤ 10000) :
    Calls Try.prog 73 #[v, .agg #[.bool s, .int .u64 hi, .int .u64 lo]] w fun e w' => ∃ v', e = .returned v' ∧ Own B0 w' v' (xs ++ adB s hi lo) ∧ Below B0 w w' ∧ Fr w w' v v' := by
  have hP := Blk.new w [.bool s, .int .u64 hi, .int .u64 lo] 42
  have hw : Below w.heap.size w (w.alloc (.cells #[.bool s, .int .u64 hi, .int .u64 lo] 42)) := (Below.refl _ _).alloc (Nat.le_refl _) _
  replace hw := hw.mono hB0
  have ho := ho0.below ((Below.refl _ _).alloc (Nat.le_refl _) (.cells #[.bool s, .int .u64 hi, .int .u64 lo] 42))
  have hne : v.ownBlock ≠ some w.heap.size := fun e => by have := (ho0.lt _ e).2; omega
  obtain ⟨c0, c1, c2, _⟩ := hP.three
  cases s
  · have HB := Lib.hid (number_own B0 4 v xs lo _ ho (by simp; omega) (by omega) (by omega) hr.2.2.1 hr.2.2.2)
    replace ho := Lib.hid ho
    replace ho0 := Lib.hid ho0
    go_enter Try.func73, Try.ntmps73
    go_wp2_with fail
    refine HB.out.mono ?_
    rintro e u1 ⟨v1, rfl, ho1, hv1, hf1⟩
    replace hw := hw.trans hv1
    replace hf1 := Lib.hid (Fr.alloc _ hf1)
    replace ho1 := Lib.hid ho1
    clear HB hv1
    go_wp2_with fail
    go_ret
    exact ⟨_, rfl, ho1.out, hw, hf1.out⟩
  · replace hr := Lib.hid hr
    replace ho := Lib.hid ho
    replace ho0 := Lib.hid ho0
    go_enter Try.func73, Try.ntmps73
    go_wp2_with fail
    clear c0 c1 c2
    refine wb_begin ([w.heap.size]) [] (by kernel_rfl) (fun u0 hb0' hz0' => ?_)
    have hb0'' := hb0'
    replace hP := hP.below hb0'
    replace hw := hw.trans (hb0'.mono (by simp; omega))
    have hBz : w.heap.size < u0.heap.size := by rw [hz0']; simp
    clear hz0'
    refine wb_pure (i := 0) (d := some 12) (v := ?_) (by simp only [List.getElem?_toArray, List.getElem?_cons_succ, List.getElem?_cons_zero] <;> rfl) (by rfl) (by kernel_rfl) (by kernel_rfl) (by kernel_rfl) (fun _ _ _ h => h) (by rfl) ?_ ?_
    rotate_left
    · ((intro u); go_simp; try with_reducible rfl)
    try simp only [Act.put, List.setIfInBounds_toArray, List.set_cons_zero, List.set_cons_succ]
    refine wb_pure (i := 1) (d := some 13) (v := ?_) (by simp only [List.getElem?_toArray, List.getElem?_cons_succ, List.getElem?_cons_zero] <;> rfl) (by rfl) (by kernel_rfl) (by kernel_rfl) (by kernel_rfl) (fun _ _ _ h => h) (by rfl) ?_ ?_
    rotate_left
    · ((intro u); go_simp; try with_reducible rfl)
    try simp only [Act.put, List.setIfInBounds_toArray, List.set_cons_zero, List.set_cons_succ]
    refine wb_take (i := 2) (d := some 14) (v := ?_) (by simp only [List.getElem?_toArray, List.getElem?_cons_succ, List.getElem?_cons_zero] <;> rfl) (by rfl) (by kernel_rfl) (by kernel_rfl) (by kernel_rfl) (fun _ _ _ h => h) (by rfl) (by kernel_rfl) ?_ ?_
    rotate_left
    · ((intro u hu); obtain ⟨c0, c1, c2, _⟩ := (hP.kb hu (by simp)).three; go_simp; try with_reducible rfl)
    try simp only [Act.put, List.setIfInBounds_toArray, List.set_cons_zero, List.set_cons_succ]
    refine wb_pure (i := 4) (d := some 16) (v := ?_) (by simp only [List.getElem?_toArray, List.getElem?_cons_succ, List.getElem?_cons_zero] <;> rfl) (by rfl) (by kernel_rfl) (by kernel_rfl) (by kernel_rfl) (fun _ _ _ h => h) (by rfl) ?_ ?_
    rotate_left
    · ((intro u); go_simp; try with_reducible rfl)
    try simp only [Act.put, List.setIfInBounds_toArray, List.set_cons_zero, List.set_cons_succ]
    refine wb_take (i := 5) (d := some 17) (v := ?_) (by simp only [List.getElem?_toArray, List.getElem?_cons_succ, List.getElem?_cons_zero] <;> rfl) (by rfl) (by kernel_rfl) (by kernel_rfl) (by kernel_rfl) (fun _ _ _ h => h) (by rfl) (by kernel_rfl) ?_ ?_
    rotate_left
    · ((intro u hu); obtain ⟨c0, c1, c2, _⟩ := (hP.kb hu (by simp)).three; go_simp; try with_reducible rfl)
    try simp only [Act.put, List.setIfInBounds_toArray, List.set_cons_zero, List.set_cons_succ]
    refine wb_one (i := 3) (by simp only [List.getElem?_toArray, List.getElem?_cons_succ, List.getElem?_cons_zero] <;> rfl) (by kernel_rfl) (by rfl) (fun K hK => ?_)
    go_simp
    refine (number_own B0 8 v xs hi _ (ho.out.below hb0') (by omega) (by omega) (by omega) hr.out.1 hr.out.2.1).mono ?_
    rintro e u2 ⟨v2, rfl, ho2, hv2, hf2⟩
    have hne2 := hf2.at' w.heap.size (by omega) hne
    replace hP := Blk.gbn hP hf2.gb hne
    refine hK.out _ _ (Kb.gb hf2.gb (by simp; exact ⟨by omega, fun e => hne e.symm⟩)) ?_
    replace hw := hw.trans hv2
    have hz2 := hf2.gb.size
    clear hK K hv2 hb0'
    try simp only [Act.put, List.setIfInBounds_toArray, List.set_cons_zero, List.set_cons_succ]
    refine wb_one (i := 6) (by simp only [List.getElem?_toArray, List.getElem?_cons_succ, List.getElem?_cons_zero] <;> rfl) (by kernel_rfl) (by rfl) (fun K hK => ?_)
    go_simp
    refine (number_own B0 8 v2 _ lo _ ho2 (by omega) (by rw [List.length_append, be_len]; omega) (by omega) hr.out.2.2.1 hr.out.2.2.2).mono ?_
    rintro e u5 ⟨v5, rfl, ho5, hv5, hf5⟩
    refine hK.out _ _ (Kb.gb hf5.gb (by simp; exact ⟨by omega, fun e => hne2 e.symm⟩)) ?_
    have hf := Fr.alloc _ (frB hb0'' (hf2.trans hf5))
    replace hw := hw.trans hv5
    clear hK K hv5 ho2 hf5 hf2 hb0''
    try simp only [Act.put, List.setIfInBounds_toArray, List.set_cons_zero, List.set_cons_succ]
    refine wb_pure (i := 7) (d := some 4) (v := ?_) (by simp only [List.getElem?_toArray, List.getElem?_cons_succ, List.getElem?_cons_zero] <;> rfl) (by rfl) (by kernel_rfl) (by kernel_rfl) (by kernel_rfl) (fun _ _ _ h => h) (by rfl) ?_ ?_
    rotate_left
    · ((intro u); go_simp; try with_reducible rfl)
    try simp only [Act.put, List.setIfInBounds_toArray, List.set_cons_zero, List.set_cons_succ]
    refine wb_done (by kernel_rfl) ?_ _
    go_wp2_with fail
    go_ret
    exact ⟨_, rfl, by rw [List.append_assoc] at ho5; exact ho5, hw, hf⟩
end Go.Proofs.Ytigbbpgfblnboaa
