/- Sites: Via, ViaOf, Site, SiteOf; errs, when. -/
import Derived.Test.YtlnflihnmdpilaaDoorOwnC
import Derived.Test.YtlnflihnmdpilaaDoorWideD
namespace Go.Proofs.YtlnflihnmdpilaaDoor
open Go.RowKit

/-- when's error. -/
def whenZ (b : Bool) (e : Int) : Int := if b then e else 0
theorem whenZ_true (e : Int) : whenZ true e = e := rfl
theorem whenZ_false (e : Int) : whenZ false e = 0 := rfl

set_option maxHeartbeats 400000 in
theorem when_any (b : Bool) (e : Int) (w : World) :
    Calls Tryd.prog 27 #[.bool b, .int .i64 e] w fun e' w' => e' = .returned (.int .i64 (whenZ b e)) ∧ w = w' := by
  cases b
  all_goals
    go_enter Tryd.func27, Tryd.ntmps27
    go_wp2_with fail
    go_ret
    exact ⟨rfl, rfl⟩

/-- The first of some errors. -/
def firstZ : List Int → Int
  | [] => 0
  | e :: r => if e = 0 then firstZ r else e

set_option maxHeartbeats 1000000 in
theorem errs_any (l : List Int) (p cap : Nat) (w : World) (hz : ∀ i, i < l.length → w.cell? ⟨p, i, none⟩ = some (.int .i64 (l.getD i 0))) (hl : l.length ≤ 100) :
    Calls Tryd.prog 26 #[.slice (some ⟨p, 0, none⟩) l.length cap] w fun e w' => e = .returned (.int .i64 (firstZ l)) ∧ w = w' := by
  go_enter Tryd.func26, Tryd.ntmps26
  go_wp2_with fail
  go_loop [7] (fun c => ∃ k : Nat, k ≤ l.length ∧ c = .int .i64 k ∧ firstZ (l.drop k) = firstZ l) (fun c => l.length - (intOf c).toNat)
  case atStart => exact ⟨0, Nat.zero_le _, rfl, rfl⟩
  case round =>
    obtain ⟨k, hk, rfl, hf⟩ := hrel
    have HF := Lib.hid hf
    clear hf
    by_cases hlt : k < l.length
    · have hc := hz k hlt
      have HD := Lib.hid (show firstZ (l.drop k) = if l.getD k 0 = 0 then firstZ (l.drop (k + 1)) else l.getD k 0 by rw [List.drop_eq_getElem_cons hlt, firstZ, List.getD_eq_getElem?_getD, List.getElem?_eq_getElem hlt]; rfl)
      generalize l.getD k 0 = x at hc HD
      clear hz
      by_cases hx : x = 0
      · have HX := Lib.hid hx
        have b0 : (x != 0) = false := by simp [hx]
        clear hx
        go_wp2_with fail
        go_round
        case rel => exact ⟨k + 1, by omega, by go_num, by rw [← HF.out, HD.out, if_pos HX.out]⟩
        case measure => simp [intOf]; omega
      · have HX := Lib.hid hx
        have b0 : (x != 0) = true := by simp [hx]
        clear hx
        go_wp2_with fail
        go_ret
        exact ⟨by rw [← HF.out, HD.out, if_neg HX.out]; rfl, rfl⟩
    · have hkl : k = l.length := by omega
      have HK := Lib.hid hkl
      clear hkl hz
      go_wp2_with fail
      go_ret
      exact ⟨by rw [← HF.out, HK.out, List.drop_length]; rfl, rfl⟩
end Go.Proofs.YtlnflihnmdpilaaDoor
