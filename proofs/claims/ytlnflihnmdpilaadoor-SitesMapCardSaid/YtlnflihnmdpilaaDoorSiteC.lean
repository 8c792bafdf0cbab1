/- Sites: Site, SiteOf. -/
import Derived.Test.YtlnflihnmdpilaaDoorSiteB
namespace Go.Proofs.YtlnflihnmdpilaaDoor
open Go.RowKit

/-- Is a prefix one of a site? -/
def isSite (s : Bool) (hi lo n : Int) : Bool := s && (decide (hi = 18230690457315508224) && (decide (96 ≤ n) && decide (lo / 281474976710656 = 0)))

/-- Three results of SiteOf. -/
abbrev siteR (k : Int) (p : Value) (ok : Bool) : Value := .tuple #[.int .i64 k, p, .bool ok]
/-- Three results of Site. -/
abbrev siteE (k : Int) (p : Value) (e : Int) : Value := .tuple #[.int .i64 k, p, .int .i64 e]
/-- The prefix of which one of a site was made. -/
abbrev offSite (lo n : Int) : Value := .agg #[.bool false, .int .u64 0, .int .u64 (lo % 4294967296), .int .i64 (n - 96)]

set_option maxHeartbeats 1000000 in
theorem siteOf_no (s : Bool) (hi lo n : Int) (w : World) (h3 : 0 ≤ lo) (h4 : lo < 18446744073709551616) (hn : isSite s hi lo n = false) :
    Calls Tryd.prog 36 #[.agg #[.bool s, .int .u64 hi, .int .u64 lo, .int .i64 n]] w (GivesV (siteR 0 zeroP false) w) := by
  cases s
  · clear hn
    go_enter Tryd.func36, Tryd.ntmps36
    go_wp2_with fail
    refine bodyPost_ret (v := siteR 0 zeroP false) ?_ rfl ⟨rfl, ?_⟩
    · simp [results, Tryd.results36, go_sem]
    · exact below_two _ _ _
  · by_cases ha : hi = 18230690457315508224
    · by_cases hb : n < 96
      · have b0 : (hi != 18230690457315508224) = false := by simp [ha]
        clear ha hn
        go_enter Tryd.func36, Tryd.ntmps36
        go_wp2_with fail
        refine bodyPost_ret (v := siteR 0 zeroP false) ?_ rfl ⟨rfl, ?_⟩
        · simp [results, Tryd.results36, go_sem]
        · exact below_two _ _ _
      · have hc : 0 < lo / 281474976710656 := by
          simp [isSite, ha, show 96 ≤ n by omega] at hn
          omega
        have b0 : (hi != 18230690457315508224) = false := by simp [ha]
        clear ha hn
        go_enter Tryd.func36, Tryd.ntmps36
        go_wp2_with fail
        refine bodyPost_ret (v := siteR 0 zeroP false) ?_ rfl ⟨rfl, ?_⟩
        · simp [results, Tryd.results36, go_sem]
        · exact below_two _ _ _
    · have b0 : (hi != 18230690457315508224) = true := by simp [ha]
      clear ha hn
      go_enter Tryd.func36, Tryd.ntmps36
      go_wp2_with fail
      refine bodyPost_ret (v := siteR 0 zeroP false) ?_ rfl ⟨rfl, ?_⟩
      · simp [results, Tryd.results36, go_sem]
      · exact below_two _ _ _

set_option maxHeartbeats 1000000 in
theorem siteOf_yes (hi lo n : Int) (w : World) (h3 : 0 ≤ lo) (h4 : lo < 18446744073709551616) (hn2 : n ≤ 128) (hn : isSite true hi lo n = true) :
    Calls Tryd.prog 36 #[.agg #[.bool true, .int .u64 hi, .int .u64 lo, .int .i64 n]] w (GivesV (siteR (lo / 4294967296) (offSite lo n) true) w) := by
  simp [isSite] at hn
  obtain ⟨ha, hb, hc⟩ := hn
  have b0 : (hi != 18230690457315508224) = false := by simp [ha]
  have hb' : ¬ n < 96 := by omega
  have hc' : ¬ 0 < lo / 281474976710656 := by omega
  clear ha hc
  go_enter Tryd.func36, Tryd.ntmps36
  go_wp2_with fail
  go_region
  all_goals go_wp2_with fail
  refine bodyPost_ret (v := siteR (lo / 4294967296) (offSite lo n) true) ?_ rfl ⟨rfl, ?_⟩
  · simp [results, Tryd.results36, go_sem]
  · repeat (with_reducible refine Below.drew ?_)
    exact below_two _ _ _

theorem and32 (x : Int) (h1 : 0 ≤ x) (h2 : x < 18446744073709551616) : bits .and .u64 x 4294967295 = x % 4294967296 := by
  rw [u64_and x 4294967295 h1 h2 (by decide) (by decide)]
  have : x.toNat &&& (4294967295 : Int).toNat = x.toNat % 2 ^ 32 := Nat.and_two_pow_sub_one_eq_mod x.toNat 32
  rw [this]
  omega

set_option maxHeartbeats 1000000 in
theorem site_bad (s : Bool) (hi lo n : Int) (w : World) (h1 : 0 ≤ hi) (h2 : hi < 18446744073709551616) (h3 : 0 ≤ lo) (h4 : lo < 18446744073709551616) (hf : pfF s hi lo n ≠ 0) :
    Calls Tryd.prog 35 #[.agg #[.bool s, .int .u64 hi, .int .u64 lo, .int .i64 n]] w (GivesV (siteE 0 zeroP (pfF s hi lo n)) w) := by
  have HC := fun w' => Lib.hid (checkPrefix_any s hi lo n w' h1 h2 h3 h4)
  have H1 : (pfF s hi lo n != 0) = true := by simp [hf]
  clear hf
  have hB := Blk.new (w.alloc (.cells #[.bool s, .int .u64 hi, .int .u64 lo, .int .i64 n] 42)) [.bool false, .int .u64 0, .int .u64 0, .int .i64 0] 42
  simp at hB
  go_enter Tryd.func35, Tryd.ntmps35
  go_wp2_with fail
  refine (HC _).out.mono ?_
  rintro e w1 ⟨rfl, hb1⟩
  obtain ⟨u0, u1, u2, u3, f0, f1, f2, f3⟩ := (hB.below hb1).four
  have hC1 : Below w.heap.size w w1 := (((Below.refl _ _).alloc (Nat.le_refl _) _).alloc (by simp) _).trans (hb1.mono (by simp; omega))
  clear hb1 hB
  go_wp2_with fail
  refine bodyPost_ret (v := siteE 0 zeroP (pfF s hi lo n)) ?_ rfl ⟨rfl, ?_⟩
  · simp [results, Tryd.results35, go_sem, u0, u1, u2, u3]
  · exact below_four hC1 (by simp) _ _ _ _

set_option maxHeartbeats 1000000 in
theorem site_no (s : Bool) (hi lo n : Int) (w : World) (h1 : 0 ≤ hi) (h2 : hi < 18446744073709551616) (h3 : 0 ≤ lo) (h4 : lo < 18446744073709551616) (hf : pfF s hi lo n = 0) (hn : isSite s hi lo n = false) :
    Calls Tryd.prog 35 #[.agg #[.bool s, .int .u64 hi, .int .u64 lo, .int .i64 n]] w (GivesV (siteE 0 zeroP 8) w) := by
  have HC := fun w' => Lib.hid (checkPrefix_any s hi lo n w' h1 h2 h3 h4)
  rw [hf] at HC
  clear hf
  have hA := (Blk.new w [.bool s, .int .u64 hi, .int .u64 lo, .int .i64 n] 42).alloc (.cells #[.bool false, .int .u64 0, .int .u64 0, .int .i64 0] 42)
  have hB := Blk.new (w.alloc (.cells #[.bool s, .int .u64 hi, .int .u64 lo, .int .i64 n] 42)) [.bool false, .int .u64 0, .int .u64 0, .int .i64 0] 42
  simp at hB
  have hQ : s = false ∨ (s = true ∧ (hi != 18230690457315508224) = true) ∨ (s = true ∧ (hi != 18230690457315508224) = false ∧ n < 96) ∨ (s = true ∧ (hi != 18230690457315508224) = false ∧ ¬ n < 96 ∧ 65535 < lo / 4294967296) := by
    cases s
    · exact .inl rfl
    · simp [isSite] at hn
      by_cases ha : hi = 18230690457315508224
      · by_cases hb : n < 96
        · exact .inr (.inr (.inl ⟨rfl, by simp [ha], hb⟩))
        · have := hn ha (by omega)
          exact .inr (.inr (.inr ⟨rfl, by simp [ha], hb, by omega⟩))
      · exact .inr (.inl ⟨rfl, by simp [ha]⟩)
  clear hn
  rcases hQ with rfl | ⟨rfl, b0⟩ | ⟨rfl, b0, b1⟩ | ⟨rfl, b0, b1, b2⟩
  all_goals
    go_enter Tryd.func35, Tryd.ntmps35
    go_wp2_with fail
    refine (HC _).out.mono ?_
    rintro e w1 ⟨rfl, hb1⟩
    obtain ⟨a0, a1, a2, a3, _⟩ := (hA.below hb1).four
    obtain ⟨u0, u1, u2, u3, f0, f1, f2, f3⟩ := (hB.below hb1).four
    have hC1 : Below w.heap.size w w1 := (((Below.refl _ _).alloc (Nat.le_refl _) _).alloc (by simp) _).trans (hb1.mono (by simp; omega))
    clear hb1 hA hB
    go_wp2_with fail
    refine bodyPost_ret (v := siteE 0 zeroP 8) ?_ rfl ⟨rfl, ?_⟩
    · simp [results, Tryd.results35, go_sem, u0, u1, u2, u3]
    · exact below_four hC1 (by simp) _ _ _ _

set_option maxHeartbeats 1000000 in
theorem site_yes (hi lo n : Int) (w : World) (h1 : 0 ≤ hi) (h2 : hi < 18446744073709551616) (h3 : 0 ≤ lo) (h4 : lo < 18446744073709551616) (hf : pfF true hi lo n = 0) (hn : isSite true hi lo n = true) :
    Calls Tryd.prog 35 #[.agg #[.bool true, .int .u64 hi, .int .u64 lo, .int .i64 n]] w (GivesV (siteE (lo / 4294967296) (offSite lo n) 0) w) := by
  have hn2 : n ≤ 128 := (pfF_zero hf).2.2.1
  have HC := fun w' => Lib.hid (checkPrefix_any true hi lo n w' h1 h2 h3 h4)
  rw [hf] at HC
  clear hf
  simp [isSite] at hn
  obtain ⟨ha, hb, hc⟩ := hn
  have b0 : (hi != 18230690457315508224) = false := by simp [ha]
  have hb' : ¬ n < 96 := by omega
  have hc' : ¬ 65535 < lo / 4294967296 := by omega
  have HL := Lib.hid (and32 lo h3 h4)
  clear ha hc
  have hA := (Blk.new w [.bool true, .int .u64 hi, .int .u64 lo, .int .i64 n] 42).alloc (.cells #[.bool false, .int .u64 0, .int .u64 0, .int .i64 0] 42)
  have hB := Blk.new (w.alloc (.cells #[.bool true, .int .u64 hi, .int .u64 lo, .int .i64 n] 42)) [.bool false, .int .u64 0, .int .u64 0, .int .i64 0] 42
  simp at hB
  go_enter Tryd.func35, Tryd.ntmps35
  go_wp2_with fail
  refine (HC _).out.mono ?_
  rintro e w1 ⟨rfl, hb1⟩
  obtain ⟨a0, a1, a2, a3, _⟩ := (hA.below hb1).four
  obtain ⟨u0, u1, u2, u3, f0, f1, f2, f3⟩ := (hB.below hb1).four
  have hz1 := hb1.size
  simp at hz1
  have hx1 : w.heap.size + 1 < w1.heap.size := by omega
  have hx0 : w.heap.size < w1.heap.size := by omega
  have hC1 : Below w.heap.size w w1 := (((Below.refl _ _).alloc (Nat.le_refl _) _).alloc (by simp) _).trans (hb1.mono (by simp; omega))
  clear hb1 hA hB
  go_wp2_with fail
  go_region
  all_goals go_wp2_with fail
  refine bodyPost_ret (v := siteE (lo / 4294967296) (offSite lo n) 0) ?_ rfl ⟨rfl, ?_⟩
  · simp [results, Tryd.results35, go_sem, u0, u1, u2, u3, HL.out, hx1]
  · refine Below.drew ?_
    refine Below.alloc ?_ ?_ _
    · exact below_four hC1 (by simp) _ _ _ _
    · simp; omega
end Go.Proofs.YtlnflihnmdpilaaDoor
