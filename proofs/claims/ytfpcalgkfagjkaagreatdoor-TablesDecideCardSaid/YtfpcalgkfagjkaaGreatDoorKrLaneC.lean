/- What a stream makes: raw addresses. -/
import Derived.Test.YtfpcalgkfagjkaaGreatDoorKrLaneAddr
namespace Go.Proofs.YtfpcalgkfagjkaaGreatDoor
open Go.RowKit

def RawA (_ : Bool) (hi lo : Int) : Prop := U64 hi ∧ U64 lo

set_option maxHeartbeats 1000000 in
theorem raw_any (w : World) (b R : Nat) (hs : Str w b (R + 6)) :
    Calls Tryz.prog 5 #[.pointer (some ⟨b, 0, none⟩)] w (AdrPost RawA b R w) := by
  have hbw := hs.lt
  have hP := Pre.start hs (.bool false) (.int .u64 0) (.int .u64 0) 30
  go_enter Tryz.func5, Tryz.ntmps5
  go_wp2_with fail
  refine (addr_any _ _ (R + 3) hP.str).mono ?_
  rintro e w1 ⟨s, hi, lo, hA, rfl, hs1, hg1⟩
  have hP1 : Pre w b (R + 3) w.heap.size _ _ _ _ w1 := ⟨hs1, hP.blk.gb hg1 hbw, gb_trans hP.base hg1⟩
  have hb1 := hs1.lt
  have hz1 := hg1.size
  simp at hz1
  have hx1 : w.heap.size < w1.heap.size := by omega
  have hL := Blk.new w1 [.bool s, .int .u64 hi, .int .u64 lo] 30
  have hP1' := hP1.alloc (.cells #[.bool s, .int .u64 hi, .int .u64 lo] 30)
  clear hP hs
  go_wp2_with fail
  refine (flip_any _ _ _ (R + 2) (by omega) (by omega) hP1'.str).mono ?_
  rintro e w2 ⟨r, rfl, hs2, hg2⟩
  have hP2 : Pre w b (R + 2) w.heap.size _ _ _ _ w2 := ⟨hs2, hP1'.blk.gb hg2 hbw, gb_trans hP1'.base hg2⟩
  obtain ⟨a0, a1, a2, e0, e1, e2⟩ := (hL.gb hg2 hb1).three
  obtain ⟨u0, u1, u2, f3, f4, f5⟩ := hP2.blk.three
  cases r
  · go_wp2_with fail
    refine bodyPost_ret (v := adV s hi lo) ?_ rfl ⟨s, hi, lo, ⟨hA.1, hA.2.1⟩, rfl, ?_⟩
    · simp [results, Tryz.results5, go_sem, u0, u1, u2]
    · have := (Pre.fin3 hP2 hbw (Nat.le_refl _) (.bool s) (.int .u64 hi) (.int .u64 lo)); exact ⟨this.1.le (by omega), this.2⟩
  · go_wp2_with fail
    refine (next_keep _ _ _ _ (R + 1) _ _ _ _ _ (by omega) (by omega) hbw hP2).mono ?_
    rintro e w3 ⟨r3, hr5, hr6, rfl, hP3, hc3, hx3, hg3, hb3, hb3', t0, t1, t2, f6, f7, f8⟩
    clear hc3
    have hQ := Blk.new w3 (([4294967296, 5, 1099511627776] : List Int).map (Value.int .u64)) 28
    go_wp2_with fail
    refine (next_keep _ _ _ _ R _ _ _ _ _ (by omega) (by omega) hbw (hP3.alloc _)).mono ?_
    rintro e w4 ⟨r4, hr7, hr8, rfl, hP4, hc4, hx4, hg4, hb4, hb4', s0, s1, s2, g6, g7, g8⟩
    clear hc4
    obtain ⟨v, hv, hl⟩ := (hQ.gb hg4 hb3).at r4 hr7 (by simpa using hr8)
    go_wp2_with fail
    refine bodyPost_ret (v := adV false r3 v) ?_ rfl ⟨false, r3, v, ⟨⟨by omega, by omega⟩, lits_ok hv (by decide)⟩, rfl, ?_⟩
    · simp [results, Tryz.results5, go_sem, s0, s1, s2]
    · exact Pre.fin3 hP4 hbw (Nat.le_refl _) (.bool false) (.int .u64 r3) (.int .u64 v)
end Go.Proofs.YtfpcalgkfagjkaaGreatDoor
