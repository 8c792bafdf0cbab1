/- What a stream makes: prefixes. -/
import Derived.Test.YtfpcalgkfagjkaaGreatDoorKrLaneC
import Derived.Test.YtfpcalgkfagjkaaGreatDoorKrWideD
set_option maxRecDepth 100000
namespace Go.Proofs.YtfpcalgkfagjkaaGreatDoor
open Go.RowKit

def PfxPost (P : Bool → Int → Int → Int → Prop) (b R : Nat) (w : World) (e : Ending) (w' : World) : Prop :=
  ∃ s hi lo n, P s hi lo n ∧ e = .returned (.agg #[.bool s, .int .u64 hi, .int .u64 lo, .int .i64 n]) ∧ Str w' b R ∧ w.grownBy w' (some b)

structure Pre4 (w0 : World) (b R p : Nat) (x y z u : Value) (t : TypeId) (w : World) : Prop where
  str : Str w b R
  blk : Blk w p [x, y, z, u] t
  base : w0.grownBy w (some b)
theorem Pre4.alloc {w0 : World} {b R p : Nat} {x y z u : Value} {t : TypeId} {w : World} (h : Pre4 w0 b R p x y z u t w) (o : Obj) : Pre4 w0 b R p x y z u t (w.alloc o) := ⟨h.str.alloc o, h.blk.alloc o, gb_alloc h.base o⟩
theorem Pre4.start {w0 : World} {b R : Nat} (hs : Str w0 b R) (x y z u : Value) (t : TypeId) : Pre4 w0 b R w0.heap.size x y z u t (w0.alloc (.cells #[x, y, z, u] t)) := ⟨hs.alloc _, Blk.new w0 [x, y, z, u] t, World.grownBy_alloc _ _ _⟩
theorem Pre4.step {w0 : World} {b R R' p : Nat} {x y z u : Value} {t : TypeId} {w w' : World} (h : Pre4 w0 b R p x y z u t w) (hb : b < p) (hs : Str w' b R') (hg : w.grownBy w' (some b)) : Pre4 w0 b R' p x y z u t w' := ⟨hs, h.blk.gb hg hb, gb_trans h.base hg⟩
theorem Pre4.below {w0 : World} {b R p : Nat} {x y z u : Value} {t : TypeId} {w w' : World} (h : Pre4 w0 b R p x y z u t w) (hb : Below w.heap.size w w') : Pre4 w0 b R p x y z u t w' := ⟨h.str.below hb, h.blk.below hb, gb_below h.base hb⟩
theorem Pre4.other {w0 : World} {b R p : Nat} {x y z u : Value} {t : TypeId} {w : World} (h : Pre4 w0 b R p x y z u t w) {q i : Nat} (hq : p ≠ q) (hb : b < q) (h0 : w0.heap.size ≤ q) (v : Value) : Pre4 w0 b R p x y z u t (w.setCell ⟨q, i, none⟩ v) :=
  ⟨h.str.setCell (p := ⟨q, i, none⟩) hb v, h.blk.other (a := ⟨q, i, none⟩) hq v, gb_setNew (p := ⟨q, i, none⟩) h.base h0 v⟩
theorem Pre4.fin {w0 : World} {b R p : Nat} {x y z u : Value} {t : TypeId} {w : World} (h : Pre4 w0 b R p x y z u t w) (hb : b < p) (hp : w0.heap.size ≤ p) (c0 c1 c2 c3 : Value) :
    Str ((((w.setCell ⟨p, 0, none⟩ c0).setCell ⟨p, 1, none⟩ c1).setCell ⟨p, 2, none⟩ c2).setCell ⟨p, 3, none⟩ c3) b R ∧ w0.grownBy ((((w.setCell ⟨p, 0, none⟩ c0).setCell ⟨p, 1, none⟩ c1).setCell ⟨p, 2, none⟩ c2).setCell ⟨p, 3, none⟩ c3) (some b) :=
  ⟨(((h.str.setCell (p := ⟨p, 0, none⟩) hb c0).setCell (p := ⟨p, 1, none⟩) hb c1).setCell (p := ⟨p, 2, none⟩) hb c2).setCell (p := ⟨p, 3, none⟩) hb c3,
   gb_setNew (p := ⟨p, 3, none⟩) (gb_setNew (p := ⟨p, 2, none⟩) (gb_setNew (p := ⟨p, 1, none⟩) (gb_setNew (p := ⟨p, 0, none⟩) h.base hp c0) hp c1) hp c2) hp c3⟩

theorem pick_lit_at (w : World) (b R p n : Nat) (zs : List Int) (t : TypeId) (cap : Nat) (hp : p = w.heap.size) (hn : n = zs.length) (hs : Str w b (R + 1)) (h1 : 1 ≤ zs.length) (h2 : zs.length ≤ 1000)
    (P : Int → Prop) (hP : ∀ z ∈ zs, P z) :
    Calls Tryz.prog 84 #[.pointer (some ⟨b, 0, none⟩), .slice (some ⟨p, 0, none⟩) n cap] (w.alloc (.cells (zs.map (Value.int .i64)).toArray t))
      (NumPost P b R (w.alloc (.cells (zs.map (Value.int .i64)).toArray t))) := by
  subst hp; subst hn
  exact pick_lit w b R zs t cap hs h1 h2 P hP

def RightP (s : Bool) (hi lo n : Int) : Prop := ∃ h l, RightA s h l ∧ 0 ≤ n ∧ n ≤ lenZ s ∧ hi = ((clr (num h l) (lenZ s - n).toNat / 2 ^ 64 : Nat) : Int) ∧ lo = ((clr (num h l) (lenZ s - n).toNat % 2 ^ 64 : Nat) : Int)

theorem RightP.u64 {s : Bool} {hi lo n : Int} (h : RightP s hi lo n) : U64 hi ∧ U64 lo := by
  obtain ⟨a, l, ⟨⟨h1, h2⟩, ⟨h3, h4⟩, _⟩, _, _, rfl, rfl⟩ := h
  have hc : clr (num a l) (lenZ s - n).toNat < 2 ^ 128 := clr_lt (num_lt h2 h4)
  generalize clr (num a l) (lenZ s - n).toNat = C at *
  constructor <;> constructor <;> omega

set_option maxHeartbeats 1000000 in
theorem rightPrefix_any (w : World) (b R : Nat) (hs : Str w b (R + 5)) :
    Calls Tryz.prog 53 #[.pointer (some ⟨b, 0, none⟩)] w (PfxPost RightP b R w) := by
  have hbw := hs.lt
  have hP := Pre4.start hs (.bool false) (.int .u64 0) (.int .u64 0) (.int .i64 0) 35
  go_enter Tryz.func53, Tryz.ntmps53
  go_wp2_with fail
  refine (addr_any _ _ (R + 2) hP.str).mono ?_
  rintro e w1 ⟨s, hi, lo, hA, rfl, hs1, hg1⟩
  have hP1 := hP.step hbw hs1 hg1
  have hb1 := hs1.lt
  have hL := Blk.new w1 [.bool s, .int .u64 hi, .int .u64 lo] 30
  have hP1' := hP1.alloc (.cells #[.bool s, .int .u64 hi, .int .u64 lo] 30)
  obtain ⟨h1, h2⟩ := hA.1
  obtain ⟨h3, h4⟩ := hA.2.1
  clear hP hs
  go_wp2_with fail
  refine (pick_lit_at _ b (R + 1) _ _ [0, 8, 24, 27, 28, 29, 30, 31, 32] _ _ (by simp) (by simp) hP1'.str (by simp) (by simp) (fun r => 0 ≤ r ∧ r ≤ 32) (by simp)).mono ?_
  rintro e w2 ⟨r, ⟨hr1, hr2⟩, rfl, hs2, hg2⟩
  have hP2 := (hP1'.alloc _).step hbw hs2 hg2
  have hL2 := (hL.alloc _).gb hg2 hb1
  obtain ⟨a0, a1, a2, _⟩ := hL2.three
  cases s
  · go_wp2_with fail
    refine (maskOf_any false _ _ _ _ h1 h2 h3 h4 hr1 hr2).mono ?_
    rintro e w3 ⟨rfl, hb3⟩
    have hP3 := hP2.below hb3
    obtain ⟨u0, u1, u2, u3, f0, f1, f2, f3⟩ := hP3.blk.four
    go_wp2_with fail
    refine bodyPost_ret (v := maskV false hi lo r) ?_ rfl ⟨false, _, _, r, ⟨hi, lo, hA, hr1, hr2, rfl, rfl⟩, rfl, ?_⟩
    · simp [results, Tryz.results53, go_sem, u0, u1, u2, u3]
    · have := Pre4.fin hP3 hbw (Nat.le_refl _) (.bool false) (.int .u64 ((clr (num hi lo) (lenZ false - r).toNat / 2 ^ 64 : Nat) : Int)) (.int .u64 ((clr (num hi lo) (lenZ false - r).toNat % 2 ^ 64 : Nat) : Int)) (.int .i64 r)
      exact ⟨this.1.le (by omega), this.2⟩
  · go_wp2_with fail
    refine (pick_lit_at _ b R _ _ [0, 8, 32, 48, 63, 64, 65, 96, 127, 128] _ _ rfl (by simp) hP2.str (by simp) (by simp) (fun r => 0 ≤ r ∧ r ≤ 128) (by simp)).mono ?_
    rintro e w3 ⟨r3, ⟨hr3, hr4⟩, rfl, hs3, hg3⟩
    have hP3 := (hP2.alloc _).step hbw hs3 hg3
    obtain ⟨b0, b1, b2, _⟩ := ((hL2.alloc _).gb hg3 hb1).three
    go_wp2_with fail
    refine (maskOf_any true _ _ _ _ h1 h2 h3 h4 hr3 hr4).mono ?_
    rintro e w4 ⟨rfl, hb4⟩
    have hP4 := hP3.below hb4
    obtain ⟨u0, u1, u2, u3, f0, f1, f2, f3⟩ := hP4.blk.four
    go_wp2_with fail
    refine bodyPost_ret (v := maskV true hi lo r3) ?_ rfl ⟨true, _, _, r3, ⟨hi, lo, hA, hr3, hr4, rfl, rfl⟩, rfl, ?_⟩
    · simp [results, Tryz.results53, go_sem, u0, u1, u2, u3]
    · have := Pre4.fin hP4 hbw (Nat.le_refl _) (.bool true) (.int .u64 ((clr (num hi lo) (lenZ true - r3).toNat / 2 ^ 64 : Nat) : Int)) (.int .u64 ((clr (num hi lo) (lenZ true - r3).toNat % 2 ^ 64 : Nat) : Int)) (.int .i64 r3)
      exact this

def RawP (_ : Bool) (hi lo n : Int) : Prop := U64 hi ∧ U64 lo ∧ -1099511627777 ≤ n ∧ n ≤ 1099511627776

theorem pfx_close {w W : World} {b R : Nat} {P : Bool → Int → Int → Int → Prop} {s : Bool} {hi lo n : Int} (hP : P s hi lo n) (h : Str W b R ∧ w.grownBy W (some b)) :
    PfxPost P b R w (.returned (.agg #[.bool s, .int .u64 hi, .int .u64 lo, .int .i64 n])) W := ⟨s, hi, lo, n, hP, rfl, h.1, h.2⟩

set_option maxHeartbeats 1000000 in
theorem prefix_any (w : World) (b R : Nat) (hs : Str w b (R + 14)) :
    Calls Tryz.prog 23 #[.pointer (some ⟨b, 0, none⟩)] w (PfxPost RawP b R w) := by
  have hbw := hs.lt
  have hP := Pre4.start hs (.bool false) (.int .u64 0) (.int .u64 0) (.int .i64 0) 35
  go_enter Tryz.func23, Tryz.ntmps23
  go_wp2_with fail
  refine (rightPrefix_any _ _ (R + 9) hP.str).mono ?_
  rintro e w1 ⟨s, hi, lo, n, hA, rfl, hs1, hg1⟩
  have hP1 := hP.step hbw hs1 hg1
  have hb1 := hs1.lt
  have hL := Blk.new w1 [.bool s, .int .u64 hi, .int .u64 lo, .int .i64 n] 35
  have hP1' := hP1.alloc (.cells #[.bool s, .int .u64 hi, .int .u64 lo, .int .i64 n] 35)
  have hU := hA.u64
  have hn : 0 ≤ n ∧ n ≤ 128 := by
    obtain ⟨_, _, _, a, c, _⟩ := hA
    have : lenZ s ≤ 128 := by cases s <;> decide
    omega
  clear hP hs
  go_wp2_with fail
  refine (flip_any _ _ _ (R + 8) (by omega) (by omega) hP1'.str).mono ?_
  rintro e w2 ⟨r, rfl, hs2, hg2⟩
  have hP2 := hP1'.step hbw hs2 hg2
  have hL2 := hL.gb hg2 hb1
  cases r
  · obtain ⟨a0, a1, a2, a3, _⟩ := hL2.four
    obtain ⟨u0, u1, u2, u3, f0, f1, f2, f3⟩ := hP2.blk.four
    go_wp2_with fail
    refine bodyPost_ret (v := .agg #[.bool s, .int .u64 hi, .int .u64 lo, .int .i64 n]) ?_ rfl (pfx_close ⟨hU.1, hU.2, by omega, by omega⟩ ?_)
    · simp [results, Tryz.results23, go_sem, u0, u1, u2, u3]
    · have := Pre4.fin hP2 hbw (Nat.le_refl _) (.bool s) (.int .u64 hi) (.int .u64 lo) (.int .i64 n)
      exact ⟨this.1.le (by omega), this.2⟩
  · go_wp2_with fail
    refine (raw_any _ _ (R + 2) hP2.str).mono ?_
    rintro e w3 ⟨s3, hi3, lo3, hA3, rfl, hs3, hg3⟩
    have hP3 := hP2.step hbw hs3 hg3
    have hL3 := hL2.gb hg3 hb1
    go_wp2_with fail
    refine (odd_any _ _ _ _ R (by omega) (by omega) (by omega) hP3.str).mono ?_
    rintro e w4 ⟨n4, ⟨hn1, hn2⟩, rfl, hs4, hg4⟩
    have hP4 := hP3.step hbw hs4 hg4
    have hL4 := hL3.gb hg4 hb1
    obtain ⟨a0, a1, a2, a3, g0, g1, g2, g3⟩ := hL4.four
    obtain ⟨u0, u1, u2, u3, f0, f1, f2, f3⟩ := hP4.blk.four
    have hz4 : w.heap.size < w1.heap.size := by have := hg1.size; simp at this; omega
    go_wp2_with fail
    refine bodyPost_ret (v := .agg #[.bool s3, .int .u64 hi3, .int .u64 lo3, .int .i64 n4]) ?_ rfl (pfx_close ⟨hA3.1, hA3.2, by omega, by omega⟩ ?_)
    · obtain ⟨q0, q1, q2, q3, _⟩ := ((((hP4.other (q := w1.heap.size) (i := 0) (by omega) hb1 (by omega) (.bool s3)).other (q := w1.heap.size) (i := 1) (by omega) hb1 (by omega) (.int .u64 hi3)).other (q := w1.heap.size) (i := 2) (by omega) hb1 (by omega) (.int .u64 lo3)).other (q := w1.heap.size) (i := 3) (by omega) hb1 (by omega) (.int .i64 n4)).blk.four
      simp [results, Tryz.results23, go_sem, q0, q1, q2, q3]
    · exact Pre4.fin ((((hP4.other (q := w1.heap.size) (i := 0) (by omega) hb1 (by omega) (.bool s3)).other (q := w1.heap.size) (i := 1) (by omega) hb1 (by omega) (.int .u64 hi3)).other (q := w1.heap.size) (i := 2) (by omega) hb1 (by omega) (.int .u64 lo3)).other (q := w1.heap.size) (i := 3) (by omega) hb1 (by omega) (.int .i64 n4)) hbw (Nat.le_refl _) (.bool s3) (.int .u64 hi3) (.int .u64 lo3) (.int .i64 n4)
end Go.Proofs.YtfpcalgkfagjkaaGreatDoor
