/- Sites: Via, ViaOf. -/
import Derived.Test.YtlnflihnmdpilaaDoorGen
import Derived.Test.YtlnflihnmdpilaaDoorSiteA
namespace Go.Proofs.YtlnflihnmdpilaaDoor
open Go.RowKit

/-- Is a site out of its range? -/
def siteOut (k : Int) : Bool := decide (k < 0 ∨ 65535 < k)
/-- Via's error. -/
def viaF (k : Int) (s : Bool) (hi lo n : Int) : Int := firstZ [whenZ (siteOut k) 1, pfF s hi lo n, whenZ s 10]
/-- Via's prefix. -/
abbrev viaV (k lo n : Int) : Value := .agg #[.bool true, .int .u64 18230690457315508224, .int .u64 (k * 4294967296 + lo), .int .i64 (96 + n)]

theorem pfF_zero {s : Bool} {hi lo n : Int} (h : pfF s hi lo n = 0) : adF s hi lo = 0 ∧ 0 ≤ n ∧ n ≤ lenZ s ∧ clr (num hi lo) (lenZ s - n).toNat = num hi lo := by
  unfold pfF at h
  split at h
  · omega
  · rename_i hA
    split at h
    · omega
    · rename_i hI
      split at h
      · rename_i hC
        have : inB n 0 (lenZ s) = true := by simpa using hI
        have := of_decide_eq_true this
        exact ⟨by simpa using hA, this.1, this.2, hC⟩
      · omega

theorem adF_four {hi lo : Int} (h : adF false hi lo = 0) : hi = 0 ∧ lo < 4294967296 := by
  unfold adF at h
  split at h
  · omega
  · rename_i hn
    simp at hn
    omega



theorem via_or (k lo : Int) (h1 : 0 ≤ k) (h2 : k ≤ 65535) (h3 : 0 ≤ lo) (h4 : lo < 4294967296) : bits .or .u64 (k * 4294967296) lo = k * 4294967296 + lo := by
  obtain ⟨K, rfl⟩ := Int.eq_ofNat_of_zero_le h1
  obtain ⟨L, rfl⟩ := Int.eq_ofNat_of_zero_le h3
  have := u64_or_nat (K * 4294967296) L (by omega) (by omega)
  rw [show ((K : Int) * 4294967296) = ((K * 4294967296 : Nat) : Int) by simp, this, nat_join 32 (K * 4294967296) L (by omega) (by omega)]
  omega

set_option maxHeartbeats 1000000 in
theorem viaOf_any (k : Int) (s : Bool) (hi lo n : Int) (w : World) (hk1 : 0 ≤ k) (hk2 : k ≤ 65535) (h3 : 0 ≤ lo) (h4 : lo < 4294967296) (hn1 : 0 ≤ n) (hn2 : n ≤ 32) :
    Calls Tryd.prog 34 #[.int .i64 k, .agg #[.bool s, .int .u64 hi, .int .u64 lo, .int .i64 n]] w (GivesV (viaV k lo n) w) := by
  go_enter Tryd.func34, Tryd.ntmps34
  go_wp2_with fail
  refine bodyPost_ret (v := viaV k lo n) ?_ rfl ⟨rfl, ?_⟩
  · simp [results, Tryd.results34, go_sem]
  · exact below_two _ _ _

set_option maxHeartbeats 1000000 in
theorem via_out (k : Int) (s : Bool) (hi lo n : Int) (w : World) (hk : k < 0 ∨ 65535 < k) :
    Calls Tryd.prog 33 #[.int .i64 k, .agg #[.bool s, .int .u64 hi, .int .u64 lo, .int .i64 n]] w (GivesV (pfR zeroP 1) w) := by
  rcases hk with hk | hk
  · go_enter Tryd.func33, Tryd.ntmps33
    go_wp2_with fail
    refine bodyPost_ret (v := pfR zeroP 1) ?_ rfl ⟨rfl, ?_⟩
    · simp [results, Tryd.results33, go_sem]
    · exact below_two _ _ _
  · have hk' : ¬ k < 0 := by omega
    go_enter Tryd.func33, Tryd.ntmps33
    go_wp2_with fail
    refine bodyPost_ret (v := pfR zeroP 1) ?_ rfl ⟨rfl, ?_⟩
    · simp [results, Tryd.results33, go_sem]
    · exact below_two _ _ _

set_option maxHeartbeats 1000000 in
theorem via_ok (k : Int) (s : Bool) (hi lo n : Int) (w : World) (hk1 : 0 ≤ k) (hk2 : k ≤ 65535) (h1 : 0 ≤ hi) (h2 : hi < 18446744073709551616) (h3 : 0 ≤ lo) (h4 : lo < 18446744073709551616) (hf : pfF s hi lo n = 0) (hs : s = false) :
    Calls Tryd.prog 33 #[.int .i64 k, .agg #[.bool s, .int .u64 hi, .int .u64 lo, .int .i64 n]] w (GivesV (pfR (viaV k lo n) 0) w) := by
  subst hs
  have hz := pfF_zero hf
  have h4' := (adF_four hz.1).2
  have hn1 := hz.2.1
  have hn2 : n ≤ 32 := hz.2.2.1
  have HC := fun w' => Lib.hid (checkPrefix_any false hi lo n w' h1 h2 h3 h4)
  rw [hf] at HC
  clear hz hf
  have hk' : ¬ k < 0 := by omega
  have hk'' : ¬ 65535 < k := by omega
  have hA := (Blk.new w [.bool false, .int .u64 hi, .int .u64 lo, .int .i64 n] 42).alloc (.cells #[.bool false, .int .u64 0, .int .u64 0, .int .i64 0] 42)
  have hB := Blk.new (w.alloc (.cells #[.bool false, .int .u64 hi, .int .u64 lo, .int .i64 n] 42)) [.bool false, .int .u64 0, .int .u64 0, .int .i64 0] 42
  simp at hB
  go_enter Tryd.func33, Tryd.ntmps33
  go_wp2_with fail
  refine (HC _).out.mono ?_
  rintro e w1 ⟨rfl, hb1⟩
  obtain ⟨a0, a1, a2, a3, _⟩ := (hA.below hb1).four
  obtain ⟨u0, u1, u2, u3, f0, f1, f2, f3⟩ := (hB.below hb1).four
  have hz1 := hb1.size
  simp at hz1
  have hx1 : w.heap.size + 1 < w1.heap.size := by omega
  have hx0 : w.heap.size < w1.heap.size := by omega
  have HO := Lib.hid (via_or k lo hk1 hk2 h3 h4')
  have hC1 : Below w.heap.size w w1 := (((Below.refl _ _).alloc (Nat.le_refl _) _).alloc (by simp) _).trans (hb1.mono (by simp; omega))
  clear hb1 hA hB
  go_wp2_with fail
  refine bodyPost_ret (v := pfR (viaV k lo n) 0) ?_ rfl ⟨rfl, ?_⟩
  · simp [results, Tryd.results33, go_sem, u0, u1, u2, u3, HO.out, hx1]
  · refine Below.alloc ?_ ?_ _
    · exact below_four hC1 (by simp) _ _ _ _
    · simp; omega

set_option maxHeartbeats 1000000 in
theorem via_six (k : Int) (hi lo n : Int) (w : World) (hk1 : 0 ≤ k) (hk2 : k ≤ 65535) (h1 : 0 ≤ hi) (h2 : hi < 18446744073709551616) (h3 : 0 ≤ lo) (h4 : lo < 18446744073709551616) (hf : pfF true hi lo n = 0) :
    Calls Tryd.prog 33 #[.int .i64 k, .agg #[.bool true, .int .u64 hi, .int .u64 lo, .int .i64 n]] w (GivesV (pfR zeroP 10) w) := by
  have HC := fun w' => Lib.hid (checkPrefix_any true hi lo n w' h1 h2 h3 h4)
  rw [hf] at HC
  clear hf
  have hk' : ¬ k < 0 := by omega
  have hk'' : ¬ 65535 < k := by omega
  have hA := (Blk.new w [.bool true, .int .u64 hi, .int .u64 lo, .int .i64 n] 42).alloc (.cells #[.bool false, .int .u64 0, .int .u64 0, .int .i64 0] 42)
  have hB := Blk.new (w.alloc (.cells #[.bool true, .int .u64 hi, .int .u64 lo, .int .i64 n] 42)) [.bool false, .int .u64 0, .int .u64 0, .int .i64 0] 42
  simp at hB
  go_enter Tryd.func33, Tryd.ntmps33
  go_wp2_with fail
  refine (HC _).out.mono ?_
  rintro e w1 ⟨rfl, hb1⟩
  obtain ⟨a0, a1, a2, a3, _⟩ := (hA.below hb1).four
  obtain ⟨u0, u1, u2, u3, f0, f1, f2, f3⟩ := (hB.below hb1).four
  have hC1 : Below w.heap.size w w1 := (((Below.refl _ _).alloc (Nat.le_refl _) _).alloc (by simp) _).trans (hb1.mono (by simp; omega))
  clear hb1 hA hB
  go_wp2_with fail
  refine bodyPost_ret (v := pfR zeroP 10) ?_ rfl ⟨rfl, ?_⟩
  · simp [results, Tryd.results33, go_sem, u0, u1, u2, u3]
  · exact below_four hC1 (by simp) _ _ _ _

set_option maxHeartbeats 1000000 in
theorem via_bad (k : Int) (s : Bool) (hi lo n : Int) (w : World) (hk1 : 0 ≤ k) (hk2 : k ≤ 65535) (h1 : 0 ≤ hi) (h2 : hi < 18446744073709551616) (h3 : 0 ≤ lo) (h4 : lo < 18446744073709551616) (hf : pfF s hi lo n ≠ 0) :
    Calls Tryd.prog 33 #[.int .i64 k, .agg #[.bool s, .int .u64 hi, .int .u64 lo, .int .i64 n]] w (GivesV (pfR zeroP (pfF s hi lo n)) w) := by
  have HC := fun w' => Lib.hid (checkPrefix_any s hi lo n w' h1 h2 h3 h4)
  have H1 : (pfF s hi lo n != 0) = true := by simp [hf]
  clear hf
  have hk' : ¬ k < 0 := by omega
  have hk'' : ¬ 65535 < k := by omega
  have hB := Blk.new (w.alloc (.cells #[.bool s, .int .u64 hi, .int .u64 lo, .int .i64 n] 42)) [.bool false, .int .u64 0, .int .u64 0, .int .i64 0] 42
  simp at hB
  go_enter Tryd.func33, Tryd.ntmps33
  go_wp2_with fail
  refine (HC _).out.mono ?_
  rintro e w1 ⟨rfl, hb1⟩
  obtain ⟨u0, u1, u2, u3, f0, f1, f2, f3⟩ := (hB.below hb1).four
  have hC1 : Below w.heap.size w w1 := (((Below.refl _ _).alloc (Nat.le_refl _) _).alloc (by simp) _).trans (hb1.mono (by simp; omega))
  clear hb1 hB
  go_wp2_with fail
  refine bodyPost_ret (v := pfR zeroP (pfF s hi lo n)) ?_ rfl ⟨rfl, ?_⟩
  · simp [results, Tryd.results33, go_sem, u0, u1, u2, u3]
  · exact below_four hC1 (by simp) _ _ _ _

/-- Via gives its error, and the prefix if there is none. -/
theorem via_any (k : Int) (s : Bool) (hi lo n : Int) (w : World) (h1 : 0 ≤ hi) (h2 : hi < 18446744073709551616) (h3 : 0 ≤ lo) (h4 : lo < 18446744073709551616) :
    ∃ p, Calls Tryd.prog 33 #[.int .i64 k, .agg #[.bool s, .int .u64 hi, .int .u64 lo, .int .i64 n]] w (GivesV (pfR p (viaF k s hi lo n)) w) ∧
      (viaF k s hi lo n = 0 → p = viaV k lo n ∧ 0 ≤ k ∧ k ≤ 65535 ∧ s = false ∧ pfF s hi lo n = 0) ∧ (viaF k s hi lo n ≠ 0 → p = zeroP) := by
  by_cases hk : k < 0 ∨ 65535 < k
  · have e : viaF k s hi lo n = 1 := by unfold viaF; rw [show siteOut k = true from decide_eq_true hk]; rfl
    rw [e]
    exact ⟨_, via_out k s hi lo n w hk, fun h => by omega, fun _ => rfl⟩
  · have eo : siteOut k = false := decide_eq_false hk
    by_cases hf : pfF s hi lo n = 0
    · cases s
      · have e : viaF k false hi lo n = 0 := by unfold viaF; rw [eo, hf]; rfl
        rw [e]
        exact ⟨_, via_ok k false hi lo n w (by omega) (by omega) h1 h2 h3 h4 hf rfl, fun _ => ⟨rfl, by omega, by omega, rfl, hf⟩, fun h => absurd rfl h⟩
      · have e : viaF k true hi lo n = 10 := by unfold viaF; rw [eo, hf]; rfl
        rw [e]
        exact ⟨_, via_six k hi lo n w (by omega) (by omega) h1 h2 h3 h4 hf, fun h => by omega, fun _ => rfl⟩
    · have e : viaF k s hi lo n = pfF s hi lo n := by unfold viaF; rw [eo]; simp [firstZ, whenZ, hf]
      rw [e]
      exact ⟨_, via_bad k s hi lo n w (by omega) (by omega) h1 h2 h3 h4 hf, fun h => absurd h hf, fun _ => rfl⟩
end Go.Proofs.YtlnflihnmdpilaaDoor
