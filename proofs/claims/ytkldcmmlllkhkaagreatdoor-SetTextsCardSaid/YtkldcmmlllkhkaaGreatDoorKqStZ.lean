/- Sets: streams of prefixes and sets. -/
import Derived.Test.YtkldcmmlllkhkaaGreatDoorKqGzA
import Derived.Test.YtkldcmmlllkhkaaGreatDoorKqStY
import Derived.Test.YtkldcmmlllkhkaaGreatDoorKqLaneD
import Derived.Deep.CutBlock
import Derived.Deep.DeepCutAuto
set_option linter.unusedVariables false
set_option linter.unusedSimpArgs false
set_option maxRecDepth 100000
namespace Go.Proofs.YtkldcmmlllkhkaaGreatDoor
open Go.RowKit

theorem right_pf {s : Bool} {hi lo n : Int} (h : RightP s hi lo n) : Pf.R (⟨s, hi, lo⟩, n) := by
  obtain ⟨a, l, ⟨⟨h1, h2⟩, ⟨h3, h4⟩, h5⟩, h6, h7, rfl, rfl⟩ := h
  have hv : num a l < 2 ^ 128 := num_lt h2 h4
  obtain ⟨k, hk⟩ : ∃ k, k = (lenZ s - n).toNat := ⟨_, rfl⟩
  rw [← hk]
  have hc : clr (num a l) k < 2 ^ 128 := Nat.lt_of_le_of_lt (clr_le _ _) hv
  have hn : num ((clr (num a l) k / 2 ^ 64 : Nat) : Int) ((clr (num a l) k % 2 ^ 64 : Nat) : Int) = clr (num a l) k := num_of_halves _ hc
  refine ⟨⟨u64_halves _ hc, fun hs => ?_⟩, h6, h7, ?_⟩
  · show num _ _ < 2 ^ 32
    rw [hn]
    have h8 := h5 hs
    have h9 := clr_le (num a l) k
    have h10 : num a l < 2 ^ 32 := by unfold num; omega
    omega
  · show clr (num _ _) (lenZ s - n).toNat = num _ _
    rw [hn, ← hk]
    unfold clr
    rw [Nat.mul_div_cancel _ (Nat.two_pow_pos k)]
theorem raw_pf {s : Bool} {hi lo n : Int} (h : RawP s hi lo n) : Pf.U (⟨s, hi, lo⟩, n) := ⟨⟨h.1, h.2.1⟩, h.2.2.1, h.2.2.2⟩
theorem Pf.R.u {p : Pf} (h : p.R) : p.U := ⟨h.1.1, by have := h.2.1; omega, by have := h.2.2.1; rcases lenZ_le p.1.s with g | g <;> omega⟩
theorem gb_own {a u x : World} {b : Nat} {v : Value} (h : a.grownBy u (some b)) (hg : u.grownBy x v.ownBlock) (hv : ∀ k, v.ownBlock = some k → a.heap.size ≤ k) : a.grownBy x (some b) :=
  ⟨hg.os.trans h.os, hg.tape.trans h.tape, hg.output.trans h.output, Nat.le_trans h.size hg.size, fun i hi hne => (hg.block i (by have := h.size; omega) (fun e => by have := hv i e.symm; omega)).trans (h.block i hi hne)⟩
theorem str_own {u x : World} {b R : Nat} {v : Value} (h : Str u b R) (hg : u.grownBy x v.ownBlock) (hv : ∀ k, v.ownBlock = some k → b < k) : Str x b R :=
  h.upto fun j hj => hg.block j (by have := h.lt; omega) (fun e => by have := hv j e.symm; omega)
theorem Str.setC {b R g : Nat} (hb : b < g) : ∀ (vs : List Value) (o : Nat) (w : World), Str w b R → Str (w.setCells g o vs) b R
  | [], _, _, h => h
  | v :: r, o, w, h => by
    unfold World.setCells
    exact Str.setC hb r (o + 1) _ (h.setCell (p := ⟨g, o, none⟩) hb v)
theorem gb_setC {a : World} {g : Nat} {r : Option Nat} (hg : a.heap.size ≤ g) : ∀ (vs : List Value) (o : Nat) (w : World), a.grownBy w r → a.grownBy (w.setCells g o vs) r
  | [], _, _, h => h
  | v :: r', o, w, h => by
    unfold World.setCells
    exact gb_setC hg r' (o + 1) _ (gb_setNew (p := ⟨g, o, none⟩) h hg v)
theorem OwnE.setAt {α : Type} {E : Enc α} {t : TypeId} {k : Nat} (hk : E.k = k) {w : World} {B g n cap : Nat} {xs : List α} {j : Nat} {x x' : α} (h : OwnE E t B w (.slice (some ⟨g, 0, none⟩) n cap) xs) (hn : n = xs.length) (hx : xs[j]? = some x) :
    OwnE E t B (w.setCells g (j * k) (E.enc x')) (.slice (some ⟨g, 0, none⟩) n cap) (xs.set j x') := by
  subst hk
  obtain ⟨hj, hxe⟩ := List.getElem?_eq_some_iff.1 hx
  have e1 : xs = xs.take j ++ x :: xs.drop (j + 1) := by rw [← hxe, List.getElem_cons_drop, List.take_append_drop]
  have e2 : xs.set j x' = xs.take j ++ x' :: xs.drop (j + 1) := List.set_eq_take_append_cons_drop.trans (if_pos hj)
  have hl : (xs.take j).length = j := by rw [List.length_take]; omega
  unfold OwnE at *
  have hs : (xs.set j x').length = xs.length := List.length_set
  rw [hs, ← hn]
  rw [← hn] at h
  have h2 := own_setL (E.enc x') (j * E.k) w _ h
  have c1 : E.cells xs = E.cells (xs.take j) ++ (E.enc x ++ E.cells (xs.drop (j + 1))) := by
    have := congrArg E.cells e1
    rwa [E.cells_app, E.cells_cons] at this
  have c2 : E.cells (xs.set j x') = E.cells (xs.take j) ++ (E.enc x' ++ E.cells (xs.drop (j + 1))) := by rw [e2, E.cells_app, E.cells_cons]
  rw [c2]
  have h3 := setL_mid (E.enc x') (E.enc x) (E.cells (xs.take j)) (E.cells (xs.drop (j + 1))) (by rw [E.len, E.len])
  rw [E.cells_len, hl, ← c1] at h3
  rwa [h3] at h2

def PfsPost (P : List Pf → Prop) (b R : Nat) (w : World) (e : Ending) (w' : World) : Prop :=
  ∃ ps v, P ps ∧ e = .returned v ∧ OwnE ePf 41 w.heap.size w' v ps ∧ Str w' b R ∧ w.grownBy w' (some b)

set_option maxHeartbeats 2000000 in
theorem prefixes_any (m : Nat) (w : World) (b R : Nat) (hm : m ≤ 6) (hs : Str w b (R + 5 * m)) :
    Calls Tryz.prog 33 #[.pointer (some ⟨b, 0, none⟩), .int .i64 m] w (PfsPost (fun ps => ps.length = m ∧ ∀ p ∈ ps, p.R) b R w) := by
  have hbw := hs.lt
  go_enter Tryz.func33, Tryz.ntmps33
  go_wp2_with fail
  go_loopw [5, 7] (fun o i wr => ∃ (k : Nat) (ps : List Pf), k ≤ m ∧ i = .int .i64 k ∧ Hid (ps.length = k ∧ ∀ p ∈ ps, p.R) ∧ OwnE ePf 41 w.heap.size wr o ps ∧ Str wr b (R + 5 * (m - k)) ∧ w.grownBy wr (some b)) (fun _ i _ => m - (intOf i).toNat)
  case atStart => exact ⟨0, [], by omega, rfl, Lib.hid ⟨rfl, fun p hp => by cases hp⟩, OwnE.nil _ _, hs, gb_refl _ _⟩
  case round =>
    obtain ⟨k, ps, hk, rfl, hps, hown, hst, hg⟩ := hrel
    by_cases hlt : k < m
    · have hlt' : (k : Int) < m := by omega
      have hst' : Str wr b ((R + 5 * (m - (k + 1))) + 5) := hst.le (by omega)
      clear hst hs
      go_wp2_with fail
      refine (rightPrefix_any wr b _ hst').mono ?_
      rintro e w1 ⟨s, hi, lo, n, hA, rfl, hs1, hg1⟩
      have hpR := Lib.hid (right_pf hA)
      obtain ⟨p, hp⟩ : ∃ p : Pf, p = (⟨s, hi, lo⟩, n) := ⟨_, rfl⟩
      rw [← hp] at hpR
      have hpv : (Value.agg #[.bool s, .int .u64 hi, .int .u64 lo, .int .i64 n]) = pfA p := by rw [hp]; rfl
      rw [hpv]
      have hne : u5.ownBlock ≠ some b := fun e => by have := hown.lt b e; omega
      replace hown := hown.gb hg1 (.inr hne)
      replace hg := gb_trans hg hg1
      clear hg1 hst' hp hpv hA
      go_wp2_with (at_builtin; refine wpList_app tyePf rfl _ _ rfl w.heap.size _ _ [p] rfl (hown.alloc' _) ⟨_, 0, none⟩ 1 1 rfl rfl ?c1 ?c2 ?c3 ?_)
      case c1 => exact cell_row_at _ _ _ _ rfl
      case c2 => have := hps.out.1; simp only [List.length_singleton]; omega
      case c3 => have := hg.size; simp; omega
      intro v3 x3 hown3 hg3 _
      have hlt3 := fun k h => (hown.lt k h).1
      replace hs1 := str_own (hs1.alloc _) hg3 (fun k h => by have := hlt3 k h; omega)
      replace hg := gb_own (gb_alloc hg _) hg3 hlt3
      have hps2 := Lib.hid (show (ps ++ [p]).length = k + 1 ∧ ∀ x ∈ ps ++ [p], x.R from ⟨by rw [List.length_append, hps.out.1]; rfl, fun x hx => by
        rcases List.mem_append.1 hx with hx | hx
        · exact hps.out.2 x hx
        · rw [List.mem_singleton.1 hx]; exact hpR.out⟩)
      clear hg3 hlt3 hown hne
      go_wp2_with fail
      go_roundw
      case rel => exact ⟨k + 1, ps ++ [p], by omega, by go_num, hps2, hown3, hs1, hg⟩
      case measure => simp [intOf]; omega
    · have hkm : k = m := by omega
      have hst' : Str wr b R := hst.le (by omega)
      clear hst hs
      go_wp2_with fail
      go_ret
      exact ⟨ps, u5, ⟨by have := hps.out.1; omega, hps.out.2⟩, rfl, hown, hst', hg⟩

set_option maxHeartbeats 2000000 in
theorem rightSet_any (w : World) (b R : Nat) (hs : Str w b (R + 26)) :
    Calls Tryz.prog 13 #[.pointer (some ⟨b, 0, none⟩)] w (PfsPost (fun ps => ps.length ≤ 5 ∧ ∀ p ∈ ps, p.R) b R w) := by
  have hbw := hs.lt
  go_enter Tryz.func13, Tryz.ntmps13
  go_wp2_with fail
  refine (range_any 0 5 w b (R + 25) (by decide) (by decide) (by decide) hs).mono ?_
  rintro e w1 ⟨r, ⟨hr1, hr2⟩, rfl, hs1, hg1⟩
  obtain ⟨m, rfl⟩ := Int.eq_ofNat_of_zero_le hr1
  have hm : m ≤ 5 := by omega
  clear hr1 hr2 hs
  go_wp2_with fail
  refine (prefixes_any m w1 b R (by omega) (hs1.le (by omega))).mono ?_
  rintro e w2 ⟨ps, v2, ⟨hp1, hp2⟩, rfl, ho2, hs2, hg2⟩
  obtain ⟨A2, c2, rfl, hS2⟩ := ho2.sl
  have HL := Lib.hid (leastOf_any A2 _ c2 ps w2 hS2 (by omega) hp2)
  rw [hp1] at HL ⊢
  have hp1' := Lib.hid hp1
  clear hp1
  replace hp2 := Lib.hid hp2
  have hg := gb_trans hg1 hg2
  clear ho2 hS2 hs1 hg1 hg2
  go_wp2_with fail
  refine HL.out.mono ?_
  rintro e w3 ⟨ys, hy1, hy2, ⟨v3, rfl, ho3⟩, hb3⟩
  have hfin := Lib.hid (show (pfsOf (ys.map rowA)).length ≤ 5 ∧ ∀ p ∈ pfsOf (ys.map rowA), p.R from ⟨by have := (leastP_same hp2.out hy1).2; have := hp1'.out; omega, pfsOf_R hy1.2.2⟩)
  have hs3 := hs2.below hb3
  have hz := hg.size
  replace hg := gb_below hg hb3
  clear HL hy1 hb3 hs2
  go_wp2_with fail
  go_ret
  exact ⟨_, v3, hfin.out, rfl, ho3.mono hz, hs3, hg⟩

set_option maxHeartbeats 2000000 in
theorem set_any (w : World) (b R : Nat) (hs : Str w b (R + 42)) :
    Calls Tryz.prog 4 #[.pointer (some ⟨b, 0, none⟩)] w (PfsPost (fun ps => ps.length ≤ 6 ∧ ∀ p ∈ ps, p.U) b R w) := by
  have hbw := hs.lt
  go_enter Tryz.func4, Tryz.ntmps4
  go_wp2_with fail
  refine (rightSet_any w b (R + 16) hs).mono ?_
  rintro e w1 ⟨ps, v1, ⟨hp1, hp2⟩, rfl, ho1, hs1, hg1⟩
  have hI := Lib.hid (show ps.length ≤ 5 ∧ ∀ p ∈ ps, p.U from ⟨hp1, fun p hp => (hp2 p hp).u⟩)
  clear hp1 hp2 hs
  go_wp2_with fail
  refine (flip_any 12 w1 b (R + 15) (by decide) (by decide) hs1).mono ?_
  rintro e w2 ⟨r, rfl, hs2, hg2⟩
  have hne : v1.ownBlock ≠ some b := fun e => by have := ho1.lt b e; omega
  replace ho1 := ho1.gb hg2 (.inr hne)
  replace hg1 := gb_trans hg1 hg2
  clear hg2 hs1 hne
  go_upto_if 7 with fail
  go_cut [3] (fun v wx => ∃ ps : List Pf, Hid (ps.length ≤ 6 ∧ ∀ p ∈ ps, p.U) ∧ OwnE ePf 41 w.heap.size wx v ps ∧ Str wx b (R + 1) ∧ w.grownBy wx (some b))
  case first =>
    cases r
    · go_wp2_with fail
      go_meet
      exact ⟨ps, Lib.hid ⟨by have := hI.out.1; omega, hI.out.2⟩, ho1, hs2.le (by omega), hg1⟩
    · go_wp2_with fail
      refine (prefix_any w2 b (R + 1) hs2).mono ?_
      rintro e w3 ⟨s, hi, lo, n, hA, rfl, hs3, hg3⟩
      have hpU := Lib.hid (raw_pf hA)
      obtain ⟨p, hp⟩ : ∃ p : Pf, p = (⟨s, hi, lo⟩, n) := ⟨_, rfl⟩
      rw [← hp] at hpU
      have hpv : (Value.agg #[.bool s, .int .u64 hi, .int .u64 lo, .int .i64 n]) = pfA p := by rw [hp]; rfl
      rw [hpv]
      have hne : v1.ownBlock ≠ some b := fun e => by have := ho1.lt b e; omega
      replace ho1 := ho1.gb hg3 (.inr hne)
      replace hg1 := gb_trans hg1 hg3
      clear hg3 hs2 hp hpv hA
      go_wp2_with (at_builtin; refine wpList_app tyePf rfl _ _ rfl w.heap.size _ _ [p] rfl (ho1.alloc' _) ⟨_, 0, none⟩ 1 1 rfl rfl ?c1 ?c2 ?c3 ?_)
      case c1 => exact cell_row_at _ _ _ _ rfl
      case c2 => have := hI.out.1; simp only [List.length_singleton]; omega
      case c3 => have := hg1.size; simp; omega
      intro v3 x3 hown3 hg4 _
      have hlt3 := fun k h => (ho1.lt k h).1
      replace hs3 := str_own (hs3.alloc _) hg4 (fun k h => by have := hlt3 k h; omega)
      replace hg1 := gb_own (gb_alloc hg1 _) hg4 hlt3
      have hI2 := Lib.hid (show (ps ++ [p]).length ≤ 6 ∧ ∀ x ∈ ps ++ [p], x.U from ⟨by rw [List.length_append]; have := hI.out.1; simp; omega, fun x hx => by
        rcases List.mem_append.1 hx with hx | hx
        · exact hI.out.2 x hx
        · rw [List.mem_singleton.1 hx]; exact hpU.out⟩)
      clear hg4 hlt3 ho1 hne
      go_wp2_with fail
      go_meet
      exact ⟨ps ++ [p], hI2, hown3, hs3, hg1⟩
  case rest =>
    clear ho1 hs2 hg1 hI
    obtain ⟨ps, hI, hown, hst, hbw'⟩ := hcut
    obtain ⟨A, cap, rfl, hsl⟩ := hown.sl
    clear hsl
    by_cases h1 : 1 < ps.length
    · obtain ⟨g, cp, hv, hg1, hg2, _, _, _⟩ := hown.form (by intro e; rw [e] at h1; simp at h1)
      cases hv
      obtain ⟨L, hL⟩ : ∃ L, L = ps.length := ⟨_, rfl⟩
      rw [← hL] at hown h1 ⊢
      have hLn := Lib.hid hL
      clear hL
      have h1' : (1 : Int) < L := by omega
      go_wp2_with fail
      refine (flip_any 30 wc b R (by decide) (by decide) hst).mono ?_
      rintro e w4 ⟨r, rfl, hs4, hg4⟩
      replace hown := hown.gb hg4 (.inr (by simp [Value.ownBlock]; omega))
      replace hbw' := gb_trans hbw' hg4
      clear hg4 hst
      cases r
      · go_wp2_with fail
        go_ret
        exact ⟨ps, _, hI.out, rfl, hown, hs4, hbw'⟩
      · obtain ⟨p0, p1, rr, rfl⟩ : ∃ p0 p1 rr, ps = p0 :: p1 :: rr := by
          match ps, hLn.out with
          | [], h => simp at h; omega
          | [_], h => simp at h; omega
          | p0 :: p1 :: rr, _ => exact ⟨p0, p1, rr, rfl⟩
        have hgw := hg1
        have hbg : b < g := by omega
        have hst := hs4
        have hgb := hbw'
        clear hs4 hbw' hg2 hg1
        have hB := gb_refl w4 none
        have hL0 : 0 < L := by omega
        have hL0' : (0 : Int) < L := by omega
        have hI2 := Lib.hid (show (p1 :: p0 :: rr).length ≤ 6 ∧ ∀ p ∈ p1 :: p0 :: rr, p.U from ⟨hI.out.1, fun p hp => hI.out.2 p (by
          simp at hp ⊢
          rcases hp with h | h | h
          · exact .inr (.inl h)
          · exact .inl h
          · exact .inr (.inr h))⟩)
        go_wp2_with fail
        refine wx_begin (none) [9, 11] (by kernel_rfl) (fun u0 hb0' hz0' => ?_)
        replace hown := hown.below hb0'
        replace hst := hst.below hb0'
        replace hgb := gb_below hgb hb0'
        clear hb0' hz0'
        refine wx_pureZ 0 (some 20) (v := ?_) ?_ ?_; rotate_left; · (intro u; go_simp; try with_reducible rfl)
        try simp only [Act.put, gzD, gzE, gzF]
        refine wx_pureZ 1 (some 21) (v := ?_) ?_ ?_; rotate_left; · (intro u; go_simp; try with_reducible rfl)
        try simp only [Act.put, gzD, gzE, gzF]
        refine wx_pureZ 2 (some 22) (v := ?_) ?_ ?_; rotate_left; · (intro u; go_simp; try with_reducible rfl)
        try simp only [Act.put, gzD, gzE, gzF]
        refine wx_pureZ 3 (some 23) (v := ?_) ?_ ?_; rotate_left; · (intro u; go_simp; try with_reducible rfl)
        try simp only [Act.put, gzD, gzE, gzF]
        refine wx_takeZ 4 (some 24) (v := ?_) ?_ ?_; rotate_left; · (intro u hu; have hou := hown.gb hu (.inr (by simp [Value.ownBlock])); have k0 := hou.ld rowPf (k := 4) rfl (j := 0) (x := p0) rfl; have k1 := hou.ld rowPf (k := 4) rfl (j := 1) (x := p1) rfl; replace k0 : (ldT 41 (.pointer (some ⟨g, 0, none⟩))).run Tryz.prog u = .ok (.value (pfA p0)) u := k0; replace k1 : (ldT 41 (.pointer (some ⟨g, 4, none⟩))).run Tryz.prog u = .ok (.value (pfA p1)) u := k1; clear hou; go_simp; try with_reducible rfl)
        try simp only [Act.put, gzD, gzE, gzF]
        refine wx_pureZ 5 (some 25) (v := ?_) ?_ ?_; rotate_left; · (intro u; go_simp; try with_reducible rfl)
        try simp only [Act.put, gzD, gzE, gzF]
        refine wx_pureZ 6 (some 26) (v := ?_) ?_ ?_; rotate_left; · (intro u; go_simp; try with_reducible rfl)
        try simp only [Act.put, gzD, gzE, gzF]
        refine wx_takeZ 7 (some 27) (v := ?_) ?_ ?_; rotate_left; · (intro u hu; have hou := hown.gb hu (.inr (by simp [Value.ownBlock])); have k0 := hou.ld rowPf (k := 4) rfl (j := 0) (x := p0) rfl; have k1 := hou.ld rowPf (k := 4) rfl (j := 1) (x := p1) rfl; replace k0 : (ldT 41 (.pointer (some ⟨g, 0, none⟩))).run Tryz.prog u = .ok (.value (pfA p0)) u := k0; replace k1 : (ldT 41 (.pointer (some ⟨g, 4, none⟩))).run Tryz.prog u = .ok (.value (pfA p1)) u := k1; clear hou; go_simp; try with_reducible rfl)
        try simp only [Act.put, gzD, gzE, gzF]
        refine wx_pureZ 8 (some 28) (v := ?_) ?_ ?_; rotate_left; · (intro u; go_simp; try with_reducible rfl)
        try simp only [Act.put, gzD, gzE, gzF]
        refine wx_store (i := 9) (by simp only [gzA, gzB, gzC] <;> rfl) (by kernel_rfl) (by rfl) (by kernel_rfl) (fun K hK => ?_)
        go_simp
        have S0 := stT_own' rowPf (E := ePf) (k := 4) rfl hown (j := 0) (x := p0) rfl 0 (pfC p1) (by decide) (pfC_len _) (pfC_one _)
        replace S0 : (stT 41 (.pointer (some ⟨g, 0, none⟩)) (pfA p1)).run Tryz.prog _ = .ok .skip (World.setCells _ g 0 (pfC p1)) := S0
        go_simp
        refine hK _ _ ?_
        have hown0 := hown.setAt (k := 4) rfl (j := 0) (x := p0) (x' := p1) (by simpa using hLn.out) rfl
        replace hown : OwnE ePf 41 _ (World.setCells _ g 0 (pfC p1)) _ (p1 :: p1 :: rr) := hown0
        replace hst := Str.setC hbg (pfC p1) 0 _ hst
        replace hgb := gb_setC hgw (pfC p1) 0 _ hgb
        clear hK K S0 hown0
        try simp only [Act.put, gzD, gzE, gzF]
        refine wx_pureZ 10 (some 29) (v := ?_) ?_ ?_; rotate_left; · (intro u; go_simp; try with_reducible rfl)
        try simp only [Act.put, gzD, gzE, gzF]
        refine wx_store (i := 11) (by simp only [gzA, gzB, gzC] <;> rfl) (by kernel_rfl) (by rfl) (by kernel_rfl) (fun K hK => ?_)
        go_simp
        have S1 := stT_own' rowPf (E := ePf) (k := 4) rfl hown (j := 1) (x := p1) rfl 0 (pfC p0) (by decide) (pfC_len _) (pfC_one _)
        replace S1 : (stT 41 (.pointer (some ⟨g, 4, none⟩)) (pfA p0)).run Tryz.prog _ = .ok .skip (World.setCells _ g 4 (pfC p0)) := S1
        go_simp
        refine hK _ _ ?_
        have hown1 := hown.setAt (k := 4) rfl (j := 1) (x := p1) (x' := p0) (by simpa using hLn.out) rfl
        replace hown : OwnE ePf 41 _ (World.setCells _ g 4 (pfC p0)) _ (p1 :: p0 :: rr) := hown1
        replace hst := Str.setC hbg (pfC p0) 4 _ hst
        replace hgb := gb_setC hgw (pfC p0) 4 _ hgb
        clear hK K S1 hown1
        try simp only [Act.put, gzD, gzE, gzF]
        refine wx_done (by kernel_rfl) ?_ _
        skip
        go_wp2_with fail
        go_ret
        exact ⟨p1 :: p0 :: rr, _, hI2.out, rfl, hown, hst, hgb⟩
    · have h1' : ¬ (1 : Int) < ps.length := by omega
      obtain ⟨L, hL⟩ : ∃ L, L = ps.length := ⟨_, rfl⟩
      rw [← hL] at hown h1 h1' ⊢
      have hLn := Lib.hid hL
      clear hL
      have hst' := hst.le (R' := R) (by omega)
      clear hst
      go_wp2_with fail
      go_ret
      exact ⟨ps, _, by first | exact hI.out | exact ⟨hI.out.1, fun a b h => hI.out.2 (a, b) h⟩, rfl, hown, hst', hbw'⟩
end Go.Proofs.YtkldcmmlllkhkaaGreatDoor
