/- Flows that are right: their addresses are in their ranges. -/
import Derived.Test.YtijlahgmnpnmfaaGreatDoorKmFltA
import Derived.Test.YtijlahgmnpnmfaaGreatDoorKmWaysB
import Derived.Test.YtijlahgmnpnmfaaGreatDoorKmMdD
import Derived.Deep.DeepCutAuto
namespace Go.Proofs.YtijlahgmnpnmfaaGreatDoor
open Go.RowKit

/-- A flow as a value, as cells. -/
abbrev flV (p : Int) (fs : Bool) (fh fl : Int) (ts : Bool) (th tl a b : Int) : Value := .agg #[.int .i64 p, .bool fs, .int .u64 fh, .int .u64 fl, .bool ts, .int .u64 th, .int .u64 tl, .int .i64 a, .int .i64 b]
abbrev flL (p : Int) (fs : Bool) (fh fl : Int) (ts : Bool) (th tl a b : Int) : List Value := [.int .i64 p, .bool fs, .int .u64 fh, .int .u64 fl, .bool ts, .int .u64 th, .int .u64 tl, .int .i64 a, .int .i64 b]
theorem or2 (x y : Int) (p cap : Nat) (w : World) (t : TypeId) (hL : Blk w p [.int .i64 x, .int .i64 y] t) :
    Calls Tryz.prog 30 #[.slice (some ⟨p, 0, none⟩) 2 cap] w fun e w' => e = .returned (.int .i64 (firstZ [x, y])) ∧ w = w' :=
  or_any [x, y] p cap w (fun i hi => by
    match i, hi with
    | 0, _ => exact hL.cell rfl
    | 1, _ => exact hL.cell rfl
    | n + 2, h => exact absurd h (by simp)) (by simp)

end Go.Proofs.YtijlahgmnpnmfaaGreatDoor
namespace Go.Proofs.YtijlahgmnpnmfaaGreatDoor
open Go.RowKit
set_option linter.unusedVariables false
set_option linter.unusedSimpArgs false

/-- pick_lit, the block's number spelt apart. -/
theorem pick_lit_at (w : World) (b R p n : Nat) (zs : List Int) (t : TypeId) (cap : Nat) (hp : p = w.heap.size) (hn : n = zs.length) (hs : Str w b (R + 1)) (h1 : 1 ≤ zs.length) (h2 : zs.length ≤ 1000)
    (P : Int → Prop) (hP : ∀ z ∈ zs, P z) :
    Calls Tryz.prog 13 #[.pointer (some ⟨b, 0, none⟩), .slice (some ⟨p, 0, none⟩) n cap] (w.alloc (.cells (zs.map (Value.int .i64)).toArray t))
      (NumPost P b R (w.alloc (.cells (zs.map (Value.int .i64)).toArray t))) := by
  subst hp; subst hn
  exact pick_lit w b R zs t cap hs h1 h2 P hP

set_option maxHeartbeats 400000 in
theorem at_any (n : Int) (w : World) (h1 : 0 ≤ n) (h2 : n ≤ 5) :
    Calls Tryz.prog 28 #[.int .i64 n] w (GivesV (adV false 0 (1681915904 + n)) w) := by
  go_enter Tryz.func28, Tryz.ntmps28
  go_wp2_with fail
  refine bodyPost_ret (v := adV false 0 (1681915904 + n)) ?_ rfl ⟨rfl, ?_⟩
  · simp [results, Tryz.results28, go_sem]
  · exact (Below.refl _ _).alloc (Nat.le_refl _) _

set_option maxHeartbeats 400000 in
theorem sixAt_any (n : Int) (w : World) (h1 : 0 ≤ n) (h2 : n ≤ 5) :
    Calls Tryz.prog 29 #[.int .i64 n] w (GivesV (adV true 18230571291595767808 n) w) := by
  go_enter Tryz.func29, Tryz.ntmps29
  go_wp2_with fail
  refine bodyPost_ret (v := adV true 18230571291595767808 n) ?_ rfl ⟨rfl, ?_⟩
  · simp [results, Tryz.results29, go_sem]
  · exact (Below.refl _ _).alloc (Nat.le_refl _) _

/-- A stream b, a younger block q where the result goes; since w0 nothing old but the stream has turned. -/
structure PreR (w0 : World) (b R q : Nat) (zs : List Value) (t : TypeId) (w : World) : Prop where
  str : Str w b R
  res : Blk w q zs t
  base : w0.grownBy w (some b)
  lt : b < q ∧ w0.heap.size ≤ q
theorem PreR.start {w0 : World} {b R : Nat} (hs : Str w0 b R) (zs : List Value) (t : TypeId) : PreR w0 b R w0.heap.size zs t (w0.alloc (.cells zs.toArray t)) := ⟨hs.alloc _, Blk.new w0 zs t, World.grownBy_alloc _ _ _, hs.lt, Nat.le_refl _⟩
theorem PreR.alloc {w0 w : World} {b R q : Nat} {zs : List Value} {t : TypeId} (h : PreR w0 b R q zs t w) (o : Obj) : PreR w0 b R q zs t (w.alloc o) := ⟨h.str.alloc o, h.res.alloc o, gb_alloc h.base o, h.lt⟩
theorem PreR.step {w0 w w' : World} {b R R' q : Nat} {zs : List Value} {t : TypeId} (h : PreR w0 b R q zs t w) (hs : Str w' b R') (hg : w.grownBy w' (some b)) : PreR w0 b R' q zs t w' := ⟨hs, h.res.gb hg h.lt.1, gb_trans h.base hg, h.lt⟩
theorem PreR.below {w0 w w' : World} {b R q : Nat} {zs : List Value} {t : TypeId} (h : PreR w0 b R q zs t w) (hb : Below w.heap.size w w') : PreR w0 b R q zs t w' := ⟨h.str.below hb, h.res.below hb, gb_below h.base hb, h.lt⟩
theorem PreR.le {w0 w : World} {b R R' q : Nat} {zs : List Value} {t : TypeId} (h : PreR w0 b R q zs t w) (hR : R' ≤ R) : PreR w0 b R' q zs t w := ⟨h.str.le hR, h.res, h.base, h.lt⟩

/-- Likewise with a younger block p of what is made. -/
structure PreF (w0 : World) (b R q p : Nat) (zs cs : List Value) (t : TypeId) (w : World) : Prop where
  r : PreR w0 b R q zs t w
  blk : Blk w p cs t
  lt : q < p
theorem PreR.newF {w0 w : World} {b R q : Nat} {zs : List Value} {t : TypeId} (h : PreR w0 b R q zs t w) (cs : List Value) : PreF w0 b R q w.heap.size zs cs t (w.alloc (.cells cs.toArray t)) := ⟨h.alloc _, Blk.new w cs t, h.res.lt⟩
theorem PreF.alloc {w0 w : World} {b R q p : Nat} {zs cs : List Value} {t : TypeId} (h : PreF w0 b R q p zs cs t w) (o : Obj) : PreF w0 b R q p zs cs t (w.alloc o) := ⟨h.r.alloc o, h.blk.alloc o, h.lt⟩
theorem PreF.step {w0 w w' : World} {b R R' q p : Nat} {zs cs : List Value} {t : TypeId} (h : PreF w0 b R q p zs cs t w) (hs : Str w' b R') (hg : w.grownBy w' (some b)) : PreF w0 b R' q p zs cs t w' := ⟨h.r.step hs hg, h.blk.gb hg (by have := h.lt; have := h.r.lt; omega), h.lt⟩
theorem PreF.below {w0 w w' : World} {b R q p : Nat} {zs cs : List Value} {t : TypeId} (h : PreF w0 b R q p zs cs t w) (hb : Below w.heap.size w w') : PreF w0 b R q p zs cs t w' := ⟨h.r.below hb, h.blk.below hb, h.lt⟩
theorem PreF.le {w0 w : World} {b R R' q p : Nat} {zs cs : List Value} {t : TypeId} (h : PreF w0 b R q p zs cs t w) (hR : R' ≤ R) : PreF w0 b R' q p zs cs t w := ⟨h.r.le hR, h.blk, h.lt⟩
theorem PreF.set {w0 w : World} {b R q p : Nat} {zs cs : List Value} {t : TypeId} (h : PreF w0 b R q p zs cs t w) (i : Nat) (v : Value) : PreF w0 b R q p zs (cs.set i v) t (w.setCell ⟨p, i, none⟩ v) := by
  have h1 := h.lt
  have h2 := h.r.lt
  exact ⟨⟨h.r.str.setCell (p := ⟨p, i, none⟩) (by simp; omega) v, h.r.res.other (a := ⟨p, i, none⟩) (by simp; omega) v, gb_setNew (p := ⟨p, i, none⟩) h.r.base (by simp; omega) v, h2⟩, h.blk.set i v, h1⟩

/-- Stores into the block of the result. -/
theorem fin1 {w0 w : World} {b R q : Nat} (hb : b < q) (h0 : w0.heap.size ≤ q) (h : Str w b R ∧ w0.grownBy w (some b)) (i : Nat) (v : Value) : Str (w.setCell ⟨q, i, none⟩ v) b R ∧ w0.grownBy (w.setCell ⟨q, i, none⟩ v) (some b) :=
  ⟨h.1.setCell (p := ⟨q, i, none⟩) hb v, gb_setNew (p := ⟨q, i, none⟩) h.2 h0 v⟩
theorem fin9 {w0 w : World} {b R q : Nat} (hb : b < q) (h0 : w0.heap.size ≤ q) (h : Str w b R ∧ w0.grownBy w (some b)) (x0 x1 x2 x3 x4 x5 x6 x7 x8 : Value) :
    Str (((((((((w.setCell ⟨q, 0, none⟩ x0).setCell ⟨q, 1, none⟩ x1).setCell ⟨q, 2, none⟩ x2).setCell ⟨q, 3, none⟩ x3).setCell ⟨q, 4, none⟩ x4).setCell ⟨q, 5, none⟩ x5).setCell ⟨q, 6, none⟩ x6).setCell ⟨q, 7, none⟩ x7).setCell ⟨q, 8, none⟩ x8) b R ∧
    w0.grownBy (((((((((w.setCell ⟨q, 0, none⟩ x0).setCell ⟨q, 1, none⟩ x1).setCell ⟨q, 2, none⟩ x2).setCell ⟨q, 3, none⟩ x3).setCell ⟨q, 4, none⟩ x4).setCell ⟨q, 5, none⟩ x5).setCell ⟨q, 6, none⟩ x6).setCell ⟨q, 7, none⟩ x7).setCell ⟨q, 8, none⟩ x8) (some b) :=
  fin1 hb h0 (fin1 hb h0 (fin1 hb h0 (fin1 hb h0 (fin1 hb h0 (fin1 hb h0 (fin1 hb h0 (fin1 hb h0 (fin1 hb h0 h 0 x0) 1 x1) 2 x2) 3 x3) 4 x4) 5 x5) 6 x6) 7 x7) 8 x8
abbrev zeroF : List Value := flL 0 false 0 0 false 0 0 0 0
end Go.Proofs.YtijlahgmnpnmfaaGreatDoor
namespace Go.Proofs.YtijlahgmnpnmfaaGreatDoor
open Go.RowKit
set_option linter.unusedVariables false
set_option linter.unusedSimpArgs false

theorem adF_lo {lo : Int} (h : lo < 4294967296) : adF false 0 lo = 0 := by unfold adF; rw [if_neg]; rintro ⟨_, h1 | h1⟩ <;> omega
theorem adF_six (hi lo : Int) : adF true hi lo = 0 := by unfold adF; rw [if_neg]; rintro ⟨h, _⟩; cases h
/-- Some flow in the block p. -/
def AnyFR (w0 : World) (b R q pa : Nat) (w : World) : Prop := ∃ p fs fh fl ts th tl a c, ((U64 fh ∧ U64 fl ∧ U64 th ∧ U64 tl) ∧ fs = ts ∧ adF fs fh fl = 0 ∧ adF ts th tl = 0) ∧ PreF w0 b R q pa zeroF (flL p fs fh fl ts th tl a c) 45 w
/-- A step of the stream b: a flow. -/
def FlPostR (b R : Nat) (w : World) (e : Ending) (w' : World) : Prop :=
  ∃ p fs fh fl ts th tl a c, ((U64 fh ∧ U64 fl ∧ U64 th ∧ U64 tl) ∧ fs = ts ∧ adF fs fh fl = 0 ∧ adF ts th tl = 0) ∧ e = .returned (flV p fs fh fl ts th tl a c) ∧ Str w' b R ∧ w.grownBy w' (some b)

set_option maxHeartbeats 4000000 in
set_option maxRecDepth 100000 in
theorem rightFlowR_any (w : World) (b R : Nat) (hs : Str w b (R + 10)) :
    Calls Tryz.prog 12 #[.pointer (some ⟨b, 0, none⟩)] w (FlPostR b R w) := by
  have hR := PreR.start hs zeroF 45
  clear hs
  go_enter Tryz.func12, Tryz.ntmps12
  go_wp2_with fail
  refine (pick_lit_at _ b (R + 9) _ _ [6, 6, 6, 17, 1, 47] _ _ (by simp) (by simp) hR.str (by simp) (by simp) (fun _ => True) (by simp)).mono ?_
  rintro e w1 ⟨pr, _, rfl, hs1, hg1⟩
  replace hR := (hR.alloc _).step hs1 hg1
  clear hs1 hg1
  go_wp2_with fail
  refine (range_any _ _ _ _ (R + 8) (by omega) (by omega) (by omega) hR.str).mono ?_
  rintro e w2 ⟨m, ⟨m1, m2⟩, rfl, hs1, hg1⟩
  replace hR := hR.step hs1 hg1
  clear hs1 hg1
  go_wp2_with fail
  refine (at_any m _ m1 m2).mono ?_
  rintro e w3 ⟨rfl, hb1⟩
  replace hR := hR.below hb1
  clear hb1
  go_wp2_with fail
  refine (range_any _ _ _ _ (R + 7) (by omega) (by omega) (by omega) hR.str).mono ?_
  rintro e w4 ⟨n, ⟨n1, n2⟩, rfl, hs1, hg1⟩
  replace hR := hR.step hs1 hg1
  clear hs1 hg1
  go_wp2_with fail
  refine (at_any n _ n1 n2).mono ?_
  rintro e w5 ⟨rfl, hb1⟩
  replace hR := hR.below hb1
  clear hb1
  have hF := hR.newF (flL pr false 0 (1681915904 + m) false 0 (1681915904 + n) 0 0)
  clear hR
  go_wp2_with fail
  refine (flip_any _ _ _ (R + 6) (by omega) (by omega) hF.r.str).mono ?_
  rintro e w6 ⟨r, rfl, hs1, hg1⟩
  replace hF := hF.step hs1 hg1
  clear hs1 hg1
  generalize w5.heap.size = pa at hF ⊢
  generalize w.heap.size = q at hF ⊢
  have hU : U64 0 ∧ U64 (1681915904 + m) ∧ U64 0 ∧ U64 (1681915904 + n) := ⟨⟨by omega, by omega⟩, ⟨by omega, by omega⟩, ⟨by omega, by omega⟩, by omega, by omega⟩
  go_upto_if 15 with fail
  go_cut [] (fun wx => AnyFR w b (R + 5) q pa wx)
  case first => as_aux_lemma =>
    cases r
    · go_wp2_with fail
      go_meet
      exact ⟨_, _, _, _, _, _, _, _, _, ⟨hU, rfl, adF_lo (by omega), adF_lo (by omega)⟩, hF.le (by omega)⟩
    · go_wp2_with fail
      refine (pick_lit_at _ b (R + 5) _ _ [0, 5, 65536] _ _ (by simp) (by simp) hF.r.str (by simp) (by simp) (fun r => 0 ≤ r ∧ r ≤ 65536) (by simp)).mono ?_
      rintro e w7 ⟨k, ⟨k1, k2⟩, rfl, hs1, hg1⟩
      replace hF := (hF.alloc _).step hs1 hg1
      clear hs1 hg1
      obtain ⟨g0, g1, g2, g3, g4, g5, g6, g7, g8⟩ := hF.blk.nineFree
      obtain ⟨c0, c1, c2, c3, c4, c5, c6, c7, c8⟩ := hF.blk.nine
      go_wp2_with fail
      go_meet
      exact ⟨_, _, _, _, _, _, _, _, _, ⟨⟨hU.1, hU.2.1, hU.2.2.1, by omega, by omega⟩, rfl, adF_lo (by omega), adF_lo (by omega)⟩, ((hF.set 4 _).set 5 _).set 6 _⟩
  case rest =>
  clear hF hU
  obtain ⟨p, fs, fh, fl, ts, th, tl, a, c, ⟨hU, hft⟩, hF⟩ := hcut
  replace hft := Lib.hid hft
  go_wp2_with fail
  refine (flip_any _ _ _ (R + 4) (by omega) (by omega) hF.r.str).mono ?_
  rintro e w8 ⟨r, rfl, hs1, hg1⟩
  replace hF := hF.step hs1 hg1
  clear hs1 hg1
  go_upto_if 24 with fail
  go_cut [] (fun wx => AnyFR w b (R + 2) q pa wx)
  case first => as_aux_lemma =>
    cases r
    · go_wp2_with fail
      go_meet
      exact ⟨_, _, _, _, _, _, _, _, _, ⟨hU, hft.out⟩, hF.le (by omega)⟩
    · go_wp2_with fail
      refine (range_any _ _ _ _ (R + 3) (by omega) (by omega) (by omega) hF.r.str).mono ?_
      rintro e w9 ⟨k, ⟨k1, k2⟩, rfl, hs1, hg1⟩
      replace hF := hF.step hs1 hg1
      clear hs1 hg1
      go_wp2_with fail
      refine (sixAt_any k _ k1 k2).mono ?_
      rintro e w10 ⟨rfl, hb1⟩
      replace hF := hF.below hb1
      clear hb1
      go_wp2_with fail
      refine (range_any _ _ _ _ (R + 2) (by omega) (by omega) (by omega) hF.r.str).mono ?_
      rintro e w9 ⟨l, ⟨l1, l2⟩, rfl, hs1, hg1⟩
      replace hF := hF.step hs1 hg1
      clear hs1 hg1
      go_wp2_with fail
      refine (sixAt_any l _ l1 l2).mono ?_
      rintro e w10 ⟨rfl, hb1⟩
      replace hF := hF.below hb1
      clear hb1
      obtain ⟨g0, g1, g2, g3, g4, g5, g6, g7, g8⟩ := hF.blk.nineFree
      obtain ⟨c0, c1, c2, c3, c4, c5, c6, c7, c8⟩ := hF.blk.nine
      go_wp2_with fail
      go_meet
      exact ⟨_, _, _, _, _, _, _, _, _, ⟨⟨⟨by omega, by omega⟩, ⟨by omega, by omega⟩, ⟨by omega, by omega⟩, by omega, by omega⟩, rfl, adF_six _ _, adF_six _ _⟩, ((((((hF.set 1 _).set 2 _).set 3 _).set 4 _).set 5 _).set 6 _)⟩
  case rest =>
  clear hF hU
  obtain ⟨p, fs, fh, fl, ts, th, tl, a, c, ⟨hU, hft⟩, hF⟩ := hcut
  replace hft := Lib.hid hft
  obtain ⟨c0, c1, c2, c3, c4, c5, c6, c7, c8⟩ := hF.blk.nine
  by_cases h6 : p = 6
  · subst h6
    go_wp2_with fail
    refine (pick_lit_at _ b (R + 1) _ _ [0, 5000] _ _ (by simp) (by simp) hF.r.str (by simp) (by simp) (fun _ => True) (by simp)).mono ?_
    rintro e w7 ⟨k, _, rfl, hs1, hg1⟩
    replace hF := (hF.alloc _).step hs1 hg1
    clear hs1 hg1 c0 c1 c2 c3 c4 c5 c6 c7 c8
    go_wp2_with fail
    refine (pick_lit_at _ b R _ _ [0, 22, 79, 80, 85, 90, 91, 100, 443, 65535] _ _ (by simp) (by simp) hF.r.str (by simp) (by simp) (fun _ => True) (by simp)).mono ?_
    rintro e w7 ⟨l, _, rfl, hs1, hg1⟩
    replace hF := (hF.alloc _).step hs1 hg1
    clear hs1 hg1
    obtain ⟨g0, g1, g2, g3, g4, g5, g6, g7, g8⟩ := hF.blk.nineFree
    obtain ⟨c0, c1, c2, c3, c4, c5, c6, c7, c8⟩ := hF.blk.nine
    obtain ⟨u0, u1, u2, u3, u4, u5, u6, u7, u8⟩ := hF.r.res.nine
    obtain ⟨f0, f1, f2, f3, f4, f5, f6, f7, f8⟩ := hF.r.res.nineFree
    have hG : PreF w b R q pa zeroF (flL 6 fs fh fl ts th tl k l) 45 _ := (hF.set 7 (.int .i64 k)).set 8 (.int .i64 l)
    have hlt := hF.lt
    go_wp2_with fail
    refine bodyPost_ret (v := flV 6 fs fh fl ts th tl k l) ?_ rfl ⟨_, fs, fh, fl, ts, th, tl, _, _, ⟨hU, hft.out⟩, rfl, fin9 hG.r.lt.1 hG.r.lt.2 ⟨hG.r.str, hG.r.base⟩ _ _ _ _ _ _ _ _ _⟩
    obtain ⟨u0, u1, u2, u3, u4, u5, u6, u7, u8⟩ := hG.r.res.nine
    simp [results, Tryz.results12, go_sem, u0, u1, u2, u3, u4, u5, u6, u7, u8]
  by_cases h17 : p = 17
  · subst h17
    go_wp2_with fail
    refine (pick_lit_at _ b (R + 1) _ _ [0, 5000] _ _ (by simp) (by simp) hF.r.str (by simp) (by simp) (fun _ => True) (by simp)).mono ?_
    rintro e w7 ⟨k, _, rfl, hs1, hg1⟩
    replace hF := (hF.alloc _).step hs1 hg1
    clear hs1 hg1 c0 c1 c2 c3 c4 c5 c6 c7 c8
    go_wp2_with fail
    refine (pick_lit_at _ b R _ _ [0, 22, 79, 80, 85, 90, 91, 100, 443, 65535] _ _ (by simp) (by simp) hF.r.str (by simp) (by simp) (fun _ => True) (by simp)).mono ?_
    rintro e w7 ⟨l, _, rfl, hs1, hg1⟩
    replace hF := (hF.alloc _).step hs1 hg1
    clear hs1 hg1
    obtain ⟨g0, g1, g2, g3, g4, g5, g6, g7, g8⟩ := hF.blk.nineFree
    obtain ⟨c0, c1, c2, c3, c4, c5, c6, c7, c8⟩ := hF.blk.nine
    obtain ⟨u0, u1, u2, u3, u4, u5, u6, u7, u8⟩ := hF.r.res.nine
    obtain ⟨f0, f1, f2, f3, f4, f5, f6, f7, f8⟩ := hF.r.res.nineFree
    have hG : PreF w b R q pa zeroF (flL 17 fs fh fl ts th tl k l) 45 _ := (hF.set 7 (.int .i64 k)).set 8 (.int .i64 l)
    have hlt := hF.lt
    go_wp2_with fail
    refine bodyPost_ret (v := flV 17 fs fh fl ts th tl k l) ?_ rfl ⟨_, fs, fh, fl, ts, th, tl, _, _, ⟨hU, hft.out⟩, rfl, fin9 hG.r.lt.1 hG.r.lt.2 ⟨hG.r.str, hG.r.base⟩ _ _ _ _ _ _ _ _ _⟩
    obtain ⟨u0, u1, u2, u3, u4, u5, u6, u7, u8⟩ := hG.r.res.nine
    simp [results, Tryz.results12, go_sem, u0, u1, u2, u3, u4, u5, u6, u7, u8]
  have b6 : (p == 6) = false := by simpa using h6
  have b17 : (p == 17) = false := by simpa using h17
  clear h6 h17
  replace hF := hF.le (R' := R) (by omega)
  clear c0 c1 c2 c3 c4 c5 c6 c7 c8
  obtain ⟨c0, c1, c2, c3, c4, c5, c6, c7, c8⟩ := hF.blk.nine
  obtain ⟨u0, u1, u2, u3, u4, u5, u6, u7, u8⟩ := hF.r.res.nine
  obtain ⟨g0, g1, g2, g3, g4, g5, g6, g7, g8⟩ := hF.r.res.nineFree
  have hlt := hF.lt
  go_wp2_with fail
  refine bodyPost_ret (v := flV p fs fh fl ts th tl a c) ?_ rfl ⟨p, fs, fh, fl, ts, th, tl, a, c, ⟨hU, hft.out⟩, rfl, fin9 hF.r.lt.1 hF.r.lt.2 ⟨hF.r.str, hF.r.base⟩ _ _ _ _ _ _ _ _ _⟩
  simp [results, Tryz.results12, go_sem, u0, u1, u2, u3, u4, u5, u6, u7, u8]
end Go.Proofs.YtijlahgmnpnmfaaGreatDoor
