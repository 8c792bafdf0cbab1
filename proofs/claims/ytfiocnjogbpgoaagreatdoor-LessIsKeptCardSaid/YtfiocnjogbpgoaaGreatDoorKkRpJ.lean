/- Reports: how the reference compares them. -/
import Derived.Test.YtfiocnjogbpgoaaGreatDoorKkRpD
import Derived.Test.YtfiocnjogbpgoaaGreatDoorKkRpO
import Derived.Test.YtfiocnjogbpgoaaGreatDoorKkFltA
namespace Go.Proofs.YtfiocnjogbpgoaaGreatDoor
open Go.RowKit
set_option linter.unusedVariables false
set_option linter.unusedSimpArgs false

theorem digS {V : Nat} (s : Bool) (hV : V < 2 ^ 128) (j : Nat) (hj : j < 8) : dig (s2n s + V) j = dig V j := by
  cases s
  · rw [s2n_false, Nat.zero_add]
  · rw [s2n_true]
    unfold dig
    have e : (2 : Nat) ^ 128 = 2 ^ (16 * j) * (2 ^ (112 - 16 * j) * 2 ^ 16) := by rw [← Nat.pow_add, ← Nat.pow_add]; congr 1; omega
    have hp := Nat.two_pow_pos (16 * j)
    rw [e, Nat.mul_add_div hp, Nat.mul_comm (2 ^ (112 - 16 * j)), Nat.add_comm, Nat.add_mul_mod_self_left]
theorem digT {V : Nat} (s : Bool) (hV : V < 2 ^ 128) : ((dig (s2n s + V) 8 : Nat) : Int) = b2i s := by
  unfold dig
  show (((s2n s + V) / 2 ^ 128 % 2 ^ 16 : Nat) : Int) = b2i s
  cases s
  · rw [s2n_false, Nat.zero_add, Nat.div_eq_of_lt hV]; rfl
  · rw [s2n_true, show (2 ^ 128 + V) / 2 ^ 128 = 1 by omega]; rfl
theorem wV_n {V : Nat} (s : Bool) (hV : V < 2 ^ 128) : wV V s = wA (s2n s + V) := by
  unfold wV wA digN
  rw [digS s hV 0 (by decide), digS s hV 1 (by decide), digS s hV 2 (by decide), digS s hV 3 (by decide), digS s hV 4 (by decide), digS s hV 5 (by decide), digS s hV 6 (by decide), digS s hV 7 (by decide), digT s hV]
theorem of_d (a : Ad) (w : World) (h : a.U) : Calls Tryz.prog 83 #[adA a] w (GivesD (wA a.n) w) := by
  have := ofI_d a.s a.hi a.lo w h.1.1 h.1.2 h.2.1 h.2.2
  rwa [wV_n a.s (show num a.hi a.lo < 2 ^ 128 from h.v_lt)] at this

set_option maxHeartbeats 2000000 in
theorem order_d (a b : Ad) (w : World) (ha : a.U) (hb : b.U) :
    Calls Tryz.prog 166 #[adA a, adA b] w (GivesD (.int .i64 (cmpN a.n b.n)) w) := by
  have C1 := Lib.hid (fun w' => of_d a w' ha)
  have C2 := Lib.hid (fun w' => of_d b w' hb)
  have C3 := Lib.hid (fun w' => wcmp_d a.n b.n w' (Nat.lt_trans ha.n_lt (by decide)) (Nat.lt_trans hb.n_lt (by decide)))
  obtain ⟨R, hR⟩ : ∃ R, R = cmpN a.n b.n := ⟨_, rfl⟩
  rw [← hR] at C3 ⊢
  clear hR ha hb
  generalize a.n = A at C1 C3
  generalize b.n = B at C2 C3
  obtain ⟨hA, hD⟩ := two_new w (adC a) (adC b) 28 28
  have hG : Gd w ((w.alloc (.cells (adC a).toArray 28)).alloc (.cells (adC b).toArray 28)) := ((Gd.refl w).alloc _).alloc _
  have hB := Gd.refl ((w.alloc (.cells (adC a).toArray 28)).alloc (.cells (adC b).toArray 28))
  go_enter Tryz.func166, Tryz.ntmps166
  go_upto_region 1 with fail
  refine wd_begin [] (by kernel_rfl) (fun u0 hb0' hz0' => ?_)
  replace hB := hB.trans hb0'
  clear hb0' hz0'
  refine wd_take (i := 0) (d := some 5) (v := ?_) (by simp only [List.getElem?_toArray, List.getElem?_cons_succ, List.getElem?_cons_zero] <;> rfl) (by rfl) (by kernel_rfl) (by kernel_rfl) (by kernel_rfl) (fun _ _ _ h => h) (by rfl) (by kernel_rfl) ?_ ?_
  rotate_left
  · ((intro u hu); have l1 := (hA.gn (hB.trans hu).1).ld rowAd rfl; have l2 := (hD.gn (hB.trans hu).1).ld rowAd rfl; go_simp; try with_reducible rfl)
  try simp only [Act.put, List.setIfInBounds_toArray, List.set_cons_zero, List.set_cons_succ]
  refine wd_take (i := 2) (d := some 7) (v := ?_) (by simp only [List.getElem?_toArray, List.getElem?_cons_succ, List.getElem?_cons_zero] <;> rfl) (by rfl) (by kernel_rfl) (by kernel_rfl) (by kernel_rfl) (fun _ _ _ h => h) (by rfl) (by kernel_rfl) ?_ ?_
  rotate_left
  · ((intro u hu); have l1 := (hA.gn (hB.trans hu).1).ld rowAd rfl; have l2 := (hD.gn (hB.trans hu).1).ld rowAd rfl; go_simp; try with_reducible rfl)
  try simp only [Act.put, List.setIfInBounds_toArray, List.set_cons_zero, List.set_cons_succ]
  refine wd_one (i := 1) (by simp only [List.getElem?_toArray, List.getElem?_cons_succ, List.getElem?_cons_zero] <;> rfl) (by kernel_rfl) (by rfl) (fun K hK => ?_)
  go_simp
  refine (C1.out _).mono ?_
  rintro e u1 ⟨rfl, hv1⟩
  refine hK _ _ hv1 ?_
  replace hB := hB.trans hv1
  clear hv1 hK K
  try simp only [Act.put, List.setIfInBounds_toArray, List.set_cons_zero, List.set_cons_succ]
  refine wd_one (i := 3) (by simp only [List.getElem?_toArray, List.getElem?_cons_succ, List.getElem?_cons_zero] <;> rfl) (by kernel_rfl) (by rfl) (fun K hK => ?_)
  go_simp
  refine (C2.out _).mono ?_
  rintro e u3 ⟨rfl, hv1⟩
  refine hK _ _ hv1 ?_
  replace hB := hB.trans hv1
  clear hv1 hK K
  try simp only [Act.put, List.setIfInBounds_toArray, List.set_cons_zero, List.set_cons_succ]
  refine wd_one (i := 4) (by simp only [List.getElem?_toArray, List.getElem?_cons_succ, List.getElem?_cons_zero] <;> rfl) (by kernel_rfl) (by rfl) (fun K hK => ?_)
  go_simp
  refine (C3.out _).mono ?_
  rintro e u4 ⟨rfl, hv1⟩
  refine hK _ _ hv1 ?_
  replace hB := hB.trans hv1
  clear hv1 hK K
  try simp only [Act.put, List.setIfInBounds_toArray, List.set_cons_zero, List.set_cons_succ]
  refine wd_pure (i := 5) (d := some 4) (v := ?_) (by simp only [List.getElem?_toArray, List.getElem?_cons_succ, List.getElem?_cons_zero] <;> rfl) (by rfl) (by kernel_rfl) (by kernel_rfl) (by kernel_rfl) (fun _ _ _ h => h) (by rfl) ?_ ?_
  rotate_left
  · ((intro u); go_simp; try with_reducible rfl)
  try simp only [Act.put, List.setIfInBounds_toArray, List.set_cons_zero, List.set_cons_succ]
  refine wd_done (by kernel_rfl) ?_ _
  go_wp2_with fail
  go_ret
  exact ⟨rfl, hG.trans hB⟩

set_option maxHeartbeats 2000000 in
/-- slices.Compare of two lists of two numbers. -/
theorem twoInts_d (a b c d : Int) (p q cp cq : Nat) (t : TypeId) (w : World) (h1 : Blk w p ([a, b].map (Value.int .i64)) t) (h2 : Blk w q ([c, d].map (Value.int .i64)) t) :
    Calls Tryz.prog 167 #[.slice (some ⟨p, 0, none⟩) 2 cp, .slice (some ⟨q, 0, none⟩) 2 cq] w fun e w' => e = .returned (.int .i64 (firstZ [Lib.compareInt a c, Lib.compareInt b d])) ∧ w' = w := by
  have a0 := h1.cell (i := 0) (v := .int .i64 a) rfl
  have a1 := h1.cell (i := 1) (v := .int .i64 b) rfl
  have b0 := h2.cell (i := 0) (v := .int .i64 c) rfl
  have b1 := h2.cell (i := 1) (v := .int .i64 d) rfl
  clear h1 h2
  have C1 := Lib.hid (fun w' => intCmp_d a c w')
  have C2 := Lib.hid (fun w' => intCmp_d b d w')
  obtain ⟨x, hx⟩ : ∃ x, x = Lib.compareInt a c := ⟨_, rfl⟩
  obtain ⟨y, hy⟩ : ∃ y, y = Lib.compareInt b d := ⟨_, rfl⟩
  rw [← hx] at C1 ⊢
  rw [← hy] at C2 ⊢
  clear hx hy
  by_cases hx : x = 0
  · subst hx
    by_cases hy : y = 0
    · subst hy
      go_enter Tryz.func167, Tryz.ntmps167
      go_wp2_with fail
      refine wp_loop_rounds 3 ?_
      rw [rounds_succ]
      go_wp2_with fail
      refine (C1.out _).mono ?_
      rintro e w1 ⟨rfl, rfl⟩
      go_wp2_with fail
      rw [rounds_succ]
      go_wp2_with fail
      refine (C2.out _).mono ?_
      rintro e w1 ⟨rfl, rfl⟩
      go_wp2_with fail
      rw [rounds_succ]
      go_wp2_with fail
      go_ret
      exact ⟨rfl, rfl⟩
    · have HY := Lib.hid (show firstZ [0, y] = y by simp [firstZ, hy])
      have hyb : (y != 0) = true := by simpa using hy
      go_enter Tryz.func167, Tryz.ntmps167
      go_wp2_with fail
      refine wp_loop_rounds 3 ?_
      rw [rounds_succ]
      go_wp2_with fail
      refine (C1.out _).mono ?_
      rintro e w1 ⟨rfl, rfl⟩
      go_wp2_with fail
      rw [rounds_succ]
      go_wp2_with fail
      refine (C2.out _).mono ?_
      rintro e w1 ⟨rfl, rfl⟩
      go_wp2_with fail
      go_ret
      exact ⟨ret_i64 HY.out.symm, rfl⟩
  · have HX := Lib.hid (show firstZ [x, y] = x by simp [firstZ, hx])
    have hxb : (x != 0) = true := by simpa using hx
    go_enter Tryz.func167, Tryz.ntmps167
    go_wp2_with fail
    refine wp_loop_rounds 3 ?_
    rw [rounds_succ]
    go_wp2_with fail
    refine (C1.out _).mono ?_
    rintro e w1 ⟨rfl, rfl⟩
    go_wp2_with fail
    go_ret
    exact ⟨ret_i64 HX.out.symm, rfl⟩
end Go.Proofs.YtfiocnjogbpgoaaGreatDoor
namespace Go.Proofs.YtfiocnjogbpgoaaGreatDoor
open Go.RowKit
set_option linter.unusedVariables false
set_option linter.unusedSimpArgs false

def adB (a b : Ad) : Bool := adQ a.s b.s a.hi a.lo b.hi b.lo
@[go_sem] theorem run_neAdB (x y : Operand) (a b : Ad) (w : World) : (neAd x y (.agg (adC a).toArray) (.agg (adC b).toArray)).run Tryz.prog w = .ok (.value (.bool (!adB a b))) w :=
  run_neAd x y a.s b.s a.hi a.lo b.hi b.lo w
theorem adB_iff (a b : Ad) : adB a b = true ↔ a = b := by
  obtain ⟨s, h, l⟩ := a
  obtain ⟨t, i, m⟩ := b
  simp [adB, adQ]
theorem firstZ_zero (l : List Int) : firstZ (0 :: l) = firstZ l := by rw [firstZ, if_pos rfl]
theorem firstZ_ne {a : Int} (h : a ≠ 0) (l : List Int) : firstZ (a :: l) = a := by rw [firstZ, if_neg h]
theorem cmpN_self (n : Nat) : cmpN n n = 0 := by unfold cmpN; rw [if_neg (Nat.lt_irrefl n), if_pos rfl]
theorem cmpN_ne {m n : Nat} (h : m ≠ n) : cmpN m n ≠ 0 := by
  unfold cmpN; split
  · decide
  · try rw [if_neg h]
    decide
theorem sgn_sub (x y : Int) : sgn (x - y) = Lib.compareInt x y := by
  unfold sgn Lib.compareInt
  by_cases h1 : x < y
  · rw [if_pos (by omega), if_pos h1]
  · rw [if_neg (by omega), if_neg h1]
    by_cases h2 : x > y
    · rw [if_pos (by omega), if_pos h2]
    · rw [if_neg (by omega), if_neg h2]
theorem compareInt_self (x : Int) : Lib.compareInt x x = 0 := by simp [Lib.compareInt]
theorem compareInt_ne {x y : Int} (h : x ≠ y) : Lib.compareInt x y ≠ 0 := by
  unfold Lib.compareInt
  split
  · decide
  · rw [if_pos (by omega)]; decide
theorem i60_sub {x y : Int} (h1 : i60 x) (h2 : i60 y) : IntKind.i64.wrap (x - y) = x - y := by
  unfold i60 at h1 h2
  exact IntWalk.i64_in _ (by omega)

set_option maxHeartbeats 4000000 in
set_option maxRecDepth 100000 in
theorem flowOrder_d (x y : Fl) (w : World) (hx : x.U) (hy : y.U) :
    Calls Tryz.prog 102 #[flA x, flA y] w (GivesD (.int .i64 (cmpFl x y)) w) := by
  obtain ⟨hA, hD⟩ := two_new w (flC x) (flC y) 54 54
  have hG : Gd w ((w.alloc (.cells (flC x).toArray 54)).alloc (.cells (flC y).toArray 54)) := ((Gd.refl w).alloc _).alloc _
  obtain ⟨R, hR⟩ : ∃ R, R = cmpFl x y := ⟨_, rfl⟩
  rw [← hR]
  unfold cmpFl at hR
  have ka := hA
  have kb := hD
  have a0 := ka.cell (i := 0) (v := .int .i64 x.p) rfl
  have a7 := ka.cell (i := 7) (v := .int .i64 x.fp) rfl
  have a8 := ka.cell (i := 8) (v := .int .i64 x.tp) rfl
  have b0 := kb.cell (i := 0) (v := .int .i64 y.p) rfl
  have b7 := kb.cell (i := 7) (v := .int .i64 y.fp) rfl
  have b8 := kb.cell (i := 8) (v := .int .i64 y.tp) rfl
  have l1 := ka.ldAt rowAd 1 (adC x.f) ((flC x).drop 4) rfl rfl
  have l2 := ka.ldAt rowAd 4 (adC x.t) ((flC x).drop 7) rfl rfl
  have l3 := kb.ldAt rowAd 1 (adC y.f) ((flC y).drop 4) rfl rfl
  have l4 := kb.ldAt rowAd 4 (adC y.t) ((flC y).drop 7) rfl rfl
  clear ka kb hA hD
  by_cases hp : x.p = y.p
  · have cp : (x.p != y.p) = false := by simp [hp]
    rw [hp, compareInt_self, firstZ_zero] at hR
    by_cases hf : x.f.n = y.f.n
    · have cf : adB x.f y.f = true := (adB_iff _ _).2 (show x.f = y.f from Ad.ext' hx.1 hy.1 hf)
      rw [hf, cmpN_self, firstZ_zero] at hR
      by_cases ht : x.t.n = y.t.n
      · have ct : adB x.t y.t = true := (adB_iff _ _).2 (show x.t = y.t from Ad.ext' hx.2.1 hy.2.1 ht)
        rw [ht, cmpN_self, firstZ_zero] at hR
        have HC := Lib.hid (fun p q cp cq t w h1 h2 => twoInts_d x.fp x.tp y.fp y.tp p q cp cq t w h1 h2)
        rw [← hR] at HC
        clear hR hp hf ht hx hy
        as_aux_lemma =>
          go_enter Tryz.func102, Tryz.ntmps102
          go_wp2_with fail
          refine (HC.out _ _ _ _ 3 _ ?_ ?_).mono ?_
          · simpa using (two_new ((w.alloc (.cells (flC x).toArray 54)).alloc (.cells (flC y).toArray 54)) ([x.fp, x.tp].map (Value.int .i64)) ([y.fp, y.tp].map (Value.int .i64)) 3 3).1
          · simpa using (two_new ((w.alloc (.cells (flC x).toArray 54)).alloc (.cells (flC y).toArray 54)) ([x.fp, x.tp].map (Value.int .i64)) ([y.fp, y.tp].map (Value.int .i64)) 3 3).2
          · rintro e w1 ⟨rfl, rfl⟩
            go_wp2_with fail
            go_ret
            exact ⟨rfl, (hG.alloc _).alloc _⟩
      · have ct : adB x.t y.t = false := by
          rw [Bool.eq_false_iff]; intro h; exact ht (by rw [(adB_iff _ _).1 h])
        have HC := Lib.hid (fun w' => order_d x.t y.t w' hx.2.1 hy.2.1)
        have hz := cmpN_ne ht
        rw [firstZ_ne hz] at hR
        rw [← hR] at HC
        clear hR hp hf ht hx hy hz
        as_aux_lemma =>
          go_enter Tryz.func102, Tryz.ntmps102
          go_wp2_with fail
          refine (HC.out _).mono ?_
          rintro e w1 ⟨rfl, hg1⟩
          go_wp2_with fail
          go_ret
          exact ⟨rfl, hG.trans hg1⟩
    · have cf : adB x.f y.f = false := by
        rw [Bool.eq_false_iff]; intro h; exact hf (by rw [(adB_iff _ _).1 h])
      have HC := Lib.hid (fun w' => order_d x.f y.f w' hx.1 hy.1)
      have hz := cmpN_ne hf
      rw [firstZ_ne hz] at hR
      rw [← hR] at HC
      clear hR hp hf hx hy hz
      as_aux_lemma =>
        go_enter Tryz.func102, Tryz.ntmps102
        go_wp2_with fail
        refine (HC.out _).mono ?_
        rintro e w1 ⟨rfl, hg1⟩
        go_wp2_with fail
        go_ret
        exact ⟨rfl, hG.trans hg1⟩
  · have cp : (x.p != y.p) = true := by simpa using hp
    have hz := compareInt_ne hp
    rw [firstZ_ne hz, ← sgn_sub] at hR
    have hw := i60_sub hx.2.2.1 hy.2.2.1
    have HC := Lib.hid (fun w' => sign_any (x.p - y.p) w')
    rw [← hR] at HC
    clear hR hp hx hy hz
    as_aux_lemma =>
      go_enter Tryz.func102, Tryz.ntmps102
      go_wp2_with fail
      refine (HC.out _).mono ?_
      rintro e w1 ⟨rfl, rfl⟩
      go_wp2_with fail
      go_ret
      exact ⟨rfl, hG⟩
end Go.Proofs.YtfiocnjogbpgoaaGreatDoor
namespace Go.Proofs.YtfiocnjogbpgoaaGreatDoor
open Go.RowKit
set_option linter.unusedVariables false
set_option linter.unusedSimpArgs false

theorem compareBytes_self : ∀ a : List UInt8, Lib.compareBytes a a = 0
  | [] => rfl
  | x :: a => by unfold Lib.compareBytes; rw [if_neg (UInt8.lt_irrefl x), if_neg (UInt8.lt_irrefl x)]; exact compareBytes_self a
theorem compareBytes_ne : ∀ {a b : List UInt8}, a ≠ b → Lib.compareBytes a b ≠ 0
  | [], [], h => absurd rfl h
  | [], _ :: _, _ => by unfold Lib.compareBytes; decide
  | _ :: _, [], _ => by unfold Lib.compareBytes; decide
  | x :: a, y :: b, h => by
    unfold Lib.compareBytes
    by_cases h1 : x < y
    · rw [if_pos h1]; decide
    · rw [if_neg h1]
      by_cases h2 : y < x
      · rw [if_pos h2]; decide
      · rw [if_neg h2]
        have e : x = y := UInt8.le_antisymm (UInt8.not_lt.1 h2) (UInt8.not_lt.1 h1)
        subst e
        exact compareBytes_ne (fun k => h (by rw [k]))

set_option maxHeartbeats 4000000 in
set_option maxRecDepth 100000 in
theorem repOrder_d (x y : Rp) (w : World) (hx : x.U) (hy : y.U) :
    Calls Tryz.prog 53 #[rpA x, rpA y] w (GivesD (.int .i64 (cmpRp x y)) w) := by
  obtain ⟨hA, hD⟩ := two_new w (rpC x) (rpC y) 56 56
  have hG : Gd w ((w.alloc (.cells (rpC x).toArray 56)).alloc (.cells (rpC y).toArray 56)) := ((Gd.refl w).alloc _).alloc _
  obtain ⟨R, hR⟩ : ∃ R, R = cmpRp x y := ⟨_, rfl⟩
  rw [← hR]
  unfold cmpRp at hR
  have a0 := hA.cell (i := 0) (v := .string ⟨x.node.toArray⟩) rfl
  have a1 := hA.cell (i := 1) (v := .int .i64 x.hour) rfl
  have a2 := hA.cell (i := 2) (v := .bool x.out) rfl
  have b0 := hD.cell (i := 0) (v := .string ⟨y.node.toArray⟩) rfl
  have b1 := hD.cell (i := 1) (v := .int .i64 y.hour) rfl
  have b2 := hD.cell (i := 2) (v := .bool y.out) rfl
  have l1 := hA.ldAt rowFl 3 (flC x.fl) [.int .i64 x.pk, .int .i64 x.by_] rfl rfl
  have l2 := hD.ldAt rowFl 3 (flC y.fl) [.int .i64 y.pk, .int .i64 y.by_] rfl rfl
  clear hA hD
  by_cases hp : x.hour = y.hour
  · have cp : (x.hour != y.hour) = false := by simp [hp]
    rw [hp, compareInt_self, firstZ_zero] at hR
    by_cases hf : x.node = y.node
    · rw [hf, compareBytes_self, firstZ_zero] at hR
      rw [hf] at a0
      by_cases ht : x.out = y.out
      · rw [ht, compareInt_self, firstZ_zero] at hR
        rw [ht] at a2
        have HC := Lib.hid (fun w' => flowOrder_d x.fl y.fl w' hx.1 hy.1)
        have hz : firstZ [cmpFl x.fl y.fl] = cmpFl x.fl y.fl := by
          by_cases h : cmpFl x.fl y.fl = 0
          · rw [h]; rfl
          · exact firstZ_ne h _
        rw [hz] at hR
        rw [← hR] at HC
        generalize y.out = o at a2 b2
        clear hR hp hf ht hx hy hz
        as_aux_lemma =>
          go_enter Tryz.func53, Tryz.ntmps53
          go_wp2_with fail
          
          refine (HC.out _).mono ?_
          rintro e w1 ⟨rfl, hg1⟩
          go_wp2_with fail
          go_ret
          exact ⟨rfl, hG.trans hg1⟩
      · have hz : R = if y.out then -1 else 1 := by
          rw [hR]
          revert ht
          cases x.out <;> cases y.out <;> intro ht
          · exact absurd rfl ht
          · exact firstZ_ne (by decide) _
          · exact firstZ_ne (by decide) _
          · exact absurd rfl ht
        clear hR hp hf hx hy
        revert ht hz a2 b2
        generalize x.out = o1
        generalize y.out = o2
        intro a2 b2 ht hz
        cases o1 <;> cases o2
        · exact absurd rfl ht
        · replace hz := Lib.hid (show R = -1 from hz)
          clear ht
          as_aux_lemma =>
            go_enter Tryz.func53, Tryz.ntmps53
            go_wp2_with fail
            
            go_ret
            exact ⟨ret_i64 hz.out.symm, hG⟩
        · replace hz := Lib.hid (show R = 1 from hz)
          clear ht
          as_aux_lemma =>
            go_enter Tryz.func53, Tryz.ntmps53
            go_wp2_with fail
            
            go_ret
            exact ⟨ret_i64 hz.out.symm, hG⟩
        · exact absurd rfl ht
    · have cf : (x.node == y.node) = false := beq_eq_false_iff_ne.2 hf
      have HC := Lib.hid (fun w' => strCmp_d x.node y.node w')
      have hz := compareBytes_ne hf
      rw [firstZ_ne hz] at hR
      rw [← hR] at HC
      clear hR hp hf hx hy hz
      as_aux_lemma =>
        go_enter Tryz.func53, Tryz.ntmps53
        go_wp2_with fail
        
        refine (HC.out _).mono ?_
        rintro e w1 ⟨rfl, rfl⟩
        go_wp2_with fail
        go_ret
        exact ⟨rfl, hG⟩
  · have cp : (x.hour != y.hour) = true := by simpa using hp
    have hz := compareInt_ne hp
    rw [firstZ_ne hz, ← sgn_sub] at hR
    have hw := i60_sub hx.2.1 hy.2.1
    have HC := Lib.hid (fun w' => sign_any (x.hour - y.hour) w')
    rw [← hR] at HC
    clear hR hp hx hy hz
    as_aux_lemma =>
      go_enter Tryz.func53, Tryz.ntmps53
      go_wp2_with fail
      
      refine (HC.out _).mono ?_
      rintro e w1 ⟨rfl, rfl⟩
      go_wp2_with fail
      go_ret
      exact ⟨rfl, hG⟩
end Go.Proofs.YtfiocnjogbpgoaaGreatDoor
