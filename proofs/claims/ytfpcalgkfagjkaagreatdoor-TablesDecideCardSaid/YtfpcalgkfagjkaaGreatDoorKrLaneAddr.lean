/- The address that a stream makes is a right one. -/
import Derived.Test.YtfpcalgkfagjkaaGreatDoorKrLaneB
namespace Go.Proofs.YtfpcalgkfagjkaaGreatDoor
open Go.RowKit

theorem adr_close {w W : World} {b R : Nat} {s : Bool} {hi lo : Int} (hP : RightA s hi lo) (h : Str W b R ∧ w.grownBy W (some b)) : AdrPost RightA b R w (.returned (adV s hi lo)) W := ⟨s, hi, lo, hP, rfl, h.1, h.2⟩

set_option maxHeartbeats 20000000 in
theorem addr_any (w : World) (b R : Nat) (hs : Str w b (R + 3)) :
    Calls Tryz.prog 24 #[.pointer (some ⟨b, 0, none⟩)] w (AdrPost RightA b R w) := by
  have hbw := hs.lt
  have hP := Pre.start hs (.bool false) (.int .u64 0) (.int .u64 0) 30
  go_enter Tryz.func24, Tryz.ntmps24
  go_wp2_with fail
  refine (next_keep _ _ _ _ _ _ _ _ _ _ (by omega) (by omega) hbw hP).mono ?_
  rintro e w1 ⟨r, hr1, hr2, rfl, hP1, hc1, hz1, hg1, hb1, hb1', q0, q1, q2, f0, f1, f2⟩
  simp at hz1
  have hx1 : w.heap.size < w1.heap.size := by omega
  clear hP hs hc1
  by_cases h0 : r = 0
  · subst h0
    have tok1 : True := trivial
    go_wp2_with fail
    go_region_with (first
      | (go_at_call 9; have _t := tok1; refine (next_keep _ _ w b (R + 1) w.heap.size (.bool false) (.int .u64 0) (.int .u64 0) 30 (by omega) (by omega) hbw ?_).mono ?_; exact (by with_reducible first | exact hP1.drew | exact (hP1.alloc _).drew | exact ((hP1.alloc _).alloc _).drew); rintro e w2 ⟨r2, hr3, hr4, rfl, hP2, hc2, hx2, hg2, hb2, hb2', u0, u1, u2, f3, f4, f5⟩; clear tok1; obtain ⟨v2, hv2, hl2⟩ := lit_at [0, 18230571291595767808, 2306139568115548160, 9223372036854775808, 18446744073709551615] .u64 r2 hr3 hr4; simp only [List.map] at hl2; (try simp at hx2); have g0 : w.heap.size < w2.heap.size := (by omega); (try have g1 : w1.heap.size < w2.heap.size := by omega); (try have g2 : w1.heap.size + 1 < w2.heap.size := by omega))
      | (go_at_call 9; refine (next_keep _ _ w b R w.heap.size (.bool false) (.int .u64 0) (.int .u64 0) 30 (by omega) (by omega) hbw ?_).mono ?_; exact (by with_reducible first | exact hP2 | exact hP2.alloc _ | exact (hP2.alloc _).alloc _); rintro e w3 ⟨r3, hr5, hr6, rfl, hP3, hc3, hx3, hg3, hb3, hb3', t0, t1, t2, f6, f7, f8⟩; obtain ⟨v3, hv3, hl3⟩ := lit_at [0, 1, 2, 4294967296, 18446744073709551615] .u64 r3 hr5 hr6; simp only [List.map] at hl3; (try simp at hx3); have g7 : w.heap.size < w3.heap.size := (by omega); (try have g3 : w2.heap.size < w3.heap.size := by omega); (try have g4 : w2.heap.size + 1 < w3.heap.size := by omega); (try have g5 : w1.heap.size < w3.heap.size := by omega); (try have g6 : w1.heap.size + 1 < w3.heap.size := by omega)))
    all_goals go_wp2_with fail
    all_goals refine bodyPost_ret (v := adV true v2 v3) ?_ rfl (adr_close ⟨lits_ok hv2 (by decide), lits_ok hv3 (by decide), fun h => by cases h⟩ ?_)
    all_goals first
      | (with_reducible exact Pre.fin3 hP3 hbw (Nat.le_refl _) (.bool true) (.int .u64 v2) (.int .u64 v3))
      | (with_reducible exact ⟨(Pre.fin3 hP3 hbw (Nat.le_refl _) (.bool true) (.int .u64 v2) (.int .u64 v3)).1.alloc _, gb_alloc (Pre.fin3 hP3 hbw (Nat.le_refl _) (.bool true) (.int .u64 v2) (.int .u64 v3)).2 _⟩)
      | (with_reducible exact ⟨((Pre.fin3 hP3 hbw (Nat.le_refl _) (.bool true) (.int .u64 v2) (.int .u64 v3)).1.alloc _).alloc _, gb_alloc (gb_alloc (Pre.fin3 hP3 hbw (Nat.le_refl _) (.bool true) (.int .u64 v2) (.int .u64 v3)).2 _) _⟩)
      | (simp [results, Tryz.results24, go_sem, t0, t1, t2, g7]; done)
  have b0 : (r == 0) = false := by simp; omega
  by_cases h1 : r = 1
  · subst h1
    have hL := Blk.new w1 (([0, 1, 4294967295, 2130706433, 3232235521] : List Int).map (Value.int .u64)) 28
    go_wp2_with fail
    refine (next_keep _ _ _ _ (R + 1) _ _ _ _ _ (by omega) (by omega) hbw (hP1.alloc _)).mono ?_
    rintro e w2 ⟨r2, hr3, hr4, rfl, hP2, hc2, hx2, hg2, hb2, hb2', u0, u1, u2, f3, f4, f5⟩
    obtain ⟨v, hv, hl⟩ := (hL.gb hg2 hb1).at r2 hr3 (by simpa using hr4)
    clear hc2 hL
    go_wp2_with fail
    refine bodyPost_ret (v := adV false 0 v) ?_ rfl (adr_close ⟨⟨by omega, by omega⟩, lits_ok hv (by decide), fun _ => ⟨rfl, ?_⟩⟩ ?_)
    · simp [results, Tryz.results24, go_sem, u0, u1, u2]
    · simp at hv; omega
    · have := (Pre.fin3 hP2 hbw (Nat.le_refl _) (.bool false) (.int .u64 0) (.int .u64 v)); exact ⟨this.1.le (by omega), this.2⟩
  have b1 : (r == 1) = false := by simp; omega
  by_cases h2 : r = 2
  · subst h2
    go_wp2_with fail
    refine (range_any _ _ _ _ (R + 1) (by omega) (by omega) (by omega) hP1.str).mono ?_
    rintro e w2 ⟨r2, ⟨hr3, hr4⟩, rfl, hs2, hg2⟩
    have hB2 := hP1.blk.gb hg2 hbw
    obtain ⟨u0, u1, u2, f3, f4, f5⟩ := hB2.three
    have hP2 : Pre w b (R + 1) w.heap.size _ _ _ _ w2 := ⟨hs2, hB2, gb_trans hP1.base hg2⟩
    go_wp2_with fail
    refine bodyPost_ret (v := adV false 0 (r2 * 251 % 4294967296)) ?_ rfl (adr_close ⟨⟨by omega, by omega⟩, ⟨by omega, by omega⟩, fun _ => ⟨rfl, by omega⟩⟩ ?_)
    · simp [results, Tryz.results24, go_sem, u0, u1, u2]
    · have := (Pre.fin3 hP2 hbw (Nat.le_refl _) (.bool false) (.int .u64 0) (.int .u64 (r2 * 251 % 4294967296))); exact ⟨this.1.le (by omega), this.2⟩
  have b2 : (r == 2) = false := by simp; omega
  go_wp2_with fail
  refine (range_any _ _ _ _ (R + 1) (by omega) (by omega) (by omega) hP1.str).mono ?_
  rintro e w2 ⟨r2, ⟨hr3, hr4⟩, rfl, hs2, hg2⟩
  have hB2 := hP1.blk.gb hg2 hbw
  obtain ⟨u0, u1, u2, f3, f4, f5⟩ := hB2.three
  have hP2 : Pre w b (R + 1) w.heap.size _ _ _ _ w2 := ⟨hs2, hB2, gb_trans hP1.base hg2⟩
  go_wp2_with fail
  refine bodyPost_ret (v := adV false 0 (167772160 + r2)) ?_ rfl (adr_close ⟨⟨by omega, by omega⟩, ⟨by omega, by omega⟩, fun _ => ⟨rfl, by omega⟩⟩ ?_)
  · simp [results, Tryz.results24, go_sem, u0, u1, u2]
  · have := (Pre.fin3 hP2 hbw (Nat.le_refl _) (.bool false) (.int .u64 0) (.int .u64 (167772160 + r2))); exact ⟨this.1.le (by omega), this.2⟩
end Go.Proofs.YtfpcalgkfagjkaaGreatDoor
