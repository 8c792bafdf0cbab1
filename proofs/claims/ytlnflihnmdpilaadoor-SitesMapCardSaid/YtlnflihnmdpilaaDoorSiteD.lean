/- Site and SiteOf, side by side. -/
import Derived.Test.YtlnflihnmdpilaaDoorSiteC
namespace Go.Proofs.YtlnflihnmdpilaaDoor
open Go.RowKit

/-- What Site gives at any prefix, and what SiteOf gives where the prefix is right. -/
theorem site_both (s : Bool) (hi lo n : Int) (h1 : 0 ≤ hi) (h2 : hi < 18446744073709551616) (h3 : 0 ≤ lo) (h4 : lo < 18446744073709551616) :
    ∃ kk E, ∃ ps ph pl pn, (∀ w', Hid (Calls Tryd.prog 35 #[.agg #[.bool s, .int .u64 hi, .int .u64 lo, .int .i64 n]] w' (GivesV (siteE kk (.agg #[.bool ps, .int .u64 ph, .int .u64 pl, .int .i64 pn]) E) w'))) ∧
      (pfF s hi lo n ≠ 0 → E = pfF s hi lo n ∧ kk = 0 ∧ ps = false ∧ ph = 0 ∧ pl = 0 ∧ pn = 0) ∧
      (pfF s hi lo n = 0 → ∃ ok, (∀ w', Hid (Calls Tryd.prog 36 #[.agg #[.bool s, .int .u64 hi, .int .u64 lo, .int .i64 n]] w' (GivesV (siteR kk (.agg #[.bool ps, .int .u64 ph, .int .u64 pl, .int .i64 pn]) ok) w'))) ∧ E = whenZ (!ok) 8) := by
  by_cases hf : pfF s hi lo n = 0
  · cases hn : isSite s hi lo n
    · exact ⟨0, 8, false, 0, 0, 0, fun w' => Lib.hid (site_no s hi lo n w' h1 h2 h3 h4 hf hn), fun h => absurd hf h, fun _ => ⟨false, fun w' => Lib.hid (siteOf_no s hi lo n w' h3 h4 hn), rfl⟩⟩
    · cases s
      · simp [isSite] at hn
      · have hn2 : n ≤ 128 := (pfF_zero hf).2.2.1
        exact ⟨_, 0, _, _, _, _, fun w' => Lib.hid (site_yes hi lo n w' h1 h2 h3 h4 hf hn), fun h => absurd hf h, fun _ => ⟨true, fun w' => Lib.hid (siteOf_yes hi lo n w' h3 h4 hn2 hn), rfl⟩⟩
  · exact ⟨0, pfF s hi lo n, false, 0, 0, 0, fun w' => Lib.hid (site_bad s hi lo n w' h1 h2 h3 h4 hf), fun _ => ⟨rfl, rfl, rfl, rfl, rfl, rfl⟩, fun h => absurd h hf⟩
end Go.Proofs.YtlnflihnmdpilaaDoor
