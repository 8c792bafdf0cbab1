/- Sites: Via, ViaOf, Site, SiteOf; errs, when. -/
import Derived.Test.YtfiocnjogbpgoaaGreatDoorKkAddressed
namespace Go.Proofs.YtfiocnjogbpgoaaGreatDoor
open Go.RowKit

theorem belowN {B m : Nat} {a w : World} (h : Below B a w) : Below B a (w.drewN m) := ⟨h.os, h.tape, h.output, h.size, h.block⟩
theorem below_four {B p : Nat} {w W : World} (h : Below B w W) (hp : B ≤ p) (x0 x1 x2 x3 : Value) : Below B w ((((W.setCell ⟨p, 0, none⟩ x0).setCell ⟨p, 1, none⟩ x1).setCell ⟨p, 2, none⟩ x2).setCell ⟨p, 3, none⟩ x3) :=
  (Below.setCell (p := ⟨p, 3, none⟩) (Below.setCell (p := ⟨p, 2, none⟩) (Below.setCell (p := ⟨p, 1, none⟩) (Below.setCell (p := ⟨p, 0, none⟩) h hp x0) hp x1) hp x2) hp x3)

set_option maxHeartbeats 1000000 in
theorem spanMask_any (s : Bool) (hi lo n : Int) (w : World) (h1 : 0 ≤ hi) (h2 : hi < 18446744073709551616) (h3 : 0 ≤ lo) (h4 : lo < 18446744073709551616) (hn1 : 0 ≤ n) (hn2 : n ≤ lenZ s) :
    Calls Tryz.prog 116 #[.agg #[.bool s, .int .u64 hi, .int .u64 lo], .int .i64 n] w (GivesV (maskV s hi lo n) w) := by
  have hl : lenZ s ≤ 128 := by cases s <;> decide
  obtain ⟨N, hN⟩ := Int.eq_ofNat_of_zero_le (show 0 ≤ lenZ s - n by omega)
  have hN' : N ≤ 128 := by omega
  obtain ⟨e1, e2⟩ := clr_halves hi lo N hN' h1 h2 h3 h4
  have HE := Lib.hid (show (Value.agg #[.bool s, .int .u64 (bits .andNot .u64 hi (onesH N : Int)), .int .u64 (bits .andNot .u64 lo (onesL N : Int)), .int .i64 n]) = maskV s hi lo n by rw [e1, e2]; unfold maskV; rw [hN, Int.toNat_natCast])
  clear e1 e2
  have hA := (Blk.new w [.bool s, .int .u64 hi, .int .u64 lo] 28).alloc (.cells #[.bool false, .int .u64 0, .int .u64 0, .int .i64 0] 31)
  have hB := Blk.new (w.alloc (.cells #[.bool s, .int .u64 hi, .int .u64 lo] 28)) [.bool false, .int .u64 0, .int .u64 0, .int .i64 0] 31
  simp at hB
  have hN2 := Lib.hid hN
  clear hN
  go_enter Tryz.func116, Tryz.ntmps116
  go_wp2_with fail
  refine (spanLength_any _ _).mono ?_
  rintro e w1 ⟨rfl, rfl⟩
  go_wp2_with fail
  rw [hN2.out]
  refine (ones_any _ hN' _).mono ?_
  rintro e w1 ⟨rfl, m, rfl⟩
  go_wp2_with fail
  refine bodyPost_ret ?_ rfl ⟨congrArg Ending.returned HE.out, ?_⟩
  · simp [results, Tryz.results116, go_sem]
  · exact below_four (belowN (((Below.refl _ _).alloc (Nat.le_refl _) _).alloc (by simp) _)) (by simp) _ _ _ _

/-- Two results: a prefix and an error. -/
abbrev pfR (p : Value) (e : Int) : Value := .tuple #[p, .int .i64 e]

set_option maxHeartbeats 1000000 in
theorem mask_ok (s : Bool) (hi lo n : Int) (w : World) (h1 : 0 ≤ hi) (h2 : hi < 18446744073709551616) (h3 : 0 ≤ lo) (h4 : lo < 18446744073709551616) (hA : adF s hi lo = 0) (hn1 : 0 ≤ n) (hn2 : n ≤ lenZ s) :
    Calls Tryz.prog 66 #[.agg #[.bool s, .int .u64 hi, .int .u64 lo], .int .i64 n] w (GivesV (pfR (maskV s hi lo n) 0) w) := by
  have hD := (Blk.new w [.bool s, .int .u64 hi, .int .u64 lo] 28).alloc (.cells #[.bool false, .int .u64 0, .int .u64 0, .int .i64 0] 31)
  have hB := Blk.new (w.alloc (.cells #[.bool s, .int .u64 hi, .int .u64 lo] 28)) [.bool false, .int .u64 0, .int .u64 0, .int .i64 0] 31
  simp at hB
  have H1 : (adF s hi lo != 0) = false := by simp [hA]
  have HA := Lib.hid hA
  clear hA
  have hn' : ¬ n < 0 := by omega
  have hn'' : ¬ lenZ s < n := by omega
  go_enter Tryz.func66, Tryz.ntmps66
  go_wp2_with fail
  refine (checkAddr_any _ _ _ _).mono ?_
  rintro e w1 ⟨rfl, hb1⟩
  have hB1 := hB.below hb1
  obtain ⟨a0, a1, a2, _⟩ := (hD.below hb1).three
  have hC1 : Below w.heap.size w w1 := (((Below.refl _ _).alloc (Nat.le_refl _) _).alloc (by simp) _).trans (hb1.mono (by simp; omega))
  clear hb1 hB hD
  go_wp2_with fail
  refine (spanLength_any _ _).mono ?_
  rintro e w2 ⟨rfl, rfl⟩
  go_wp2_with fail
  refine (spanMask_any _ _ _ _ _ h1 h2 h3 h4 hn1 hn2).mono ?_
  rintro e w2 ⟨rfl, hb2⟩
  obtain ⟨u0, u1, u2, u3, f0, f1, f2, f3⟩ := (hB1.below hb2).four
  have hC2 := hC1.trans (hb2.mono hC1.size)
  clear hb2 hB1 hC1
  go_wp2_with fail
  refine bodyPost_ret (v := pfR (maskV s hi lo n) 0) ?_ rfl ⟨rfl, ?_⟩
  · simp [results, Tryz.results66, go_sem, u0, u1, u2, u3]
  · exact below_four hC2 (by simp) _ _ _ _
end Go.Proofs.YtfiocnjogbpgoaaGreatDoor
namespace Go.Proofs.YtfiocnjogbpgoaaGreatDoor
open Go.RowKit

end Go.Proofs.YtfiocnjogbpgoaaGreatDoor
namespace Go.Proofs.YtfiocnjogbpgoaaGreatDoor
open Go.RowKit

/-- The first of some errors. -/
def firstZ : List Int → Int
  | [] => 0
  | e :: r => if e = 0 then firstZ r else e

end Go.Proofs.YtfiocnjogbpgoaaGreatDoor
