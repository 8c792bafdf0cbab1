/- Which protocols use ports. (In the place of FltA where TxtJ stands.) -/
import Derived.Test.YtfiocnjogbpgoaaGreatDoorKkPfxA
import Derived.Test.YtfiocnjogbpgoaaGreatDoorKkSiteB
import Derived.Test.YtfiocnjogbpgoaaGreatDoorKkPfxM
import Derived.Test.YtfiocnjogbpgoaaGreatDoorKkLaneC
import Derived.Test.YtfiocnjogbpgoaaGreatDoorKkAddressed
import Derived.ChangeAlike
namespace Go.Proofs.YtfiocnjogbpgoaaGreatDoor
open Go.RowKit
set_option linter.unusedVariables false
set_option linter.unusedSimpArgs false






theorem firstZ_two (a b : Int) : firstZ [a, b] = if a = 0 then b else a := by
  simp only [firstZ]
  split
  · split <;> simp_all
  · rfl

end Go.Proofs.YtfiocnjogbpgoaaGreatDoor
namespace Go.Proofs.YtfiocnjogbpgoaaGreatDoor
open Go.RowKit
set_option linter.unusedVariables false
set_option linter.unusedSimpArgs false

end Go.Proofs.YtfiocnjogbpgoaaGreatDoor
namespace Go.Proofs.YtfiocnjogbpgoaaGreatDoor
open Go.RowKit
set_option linter.unusedVariables false
set_option linter.unusedSimpArgs false

/-- The sign of a number. -/
def sgn (n : Int) : Int := if n < 0 then -1 else if 0 < n then 1 else 0
theorem sign_any (n : Int) (w : World) : Calls Tryz.prog 100 #[.int .i64 n] w fun e w' => e = .returned (.int .i64 (sgn n)) ∧ w = w' := by
  have hn : n < 0 ∨ (¬ n < 0 ∧ 0 < n) ∨ (¬ n < 0 ∧ ¬ 0 < n) := by omega
  rcases hn with a | ⟨a, b⟩ | ⟨a, b⟩
  · have H := Lib.hid (show sgn n = -1 from if_pos a)
    go_enter Tryz.func100, Tryz.ntmps100
    go_wp2_with fail
    go_ret
    exact ⟨by rw [H.out]; rfl, rfl⟩
  · have H := Lib.hid (show sgn n = 1 by unfold sgn; rw [if_neg a, if_pos b])
    go_enter Tryz.func100, Tryz.ntmps100
    go_wp2_with fail
    go_ret
    exact ⟨by rw [H.out]; rfl, rfl⟩
  · have H := Lib.hid (show sgn n = 0 by unfold sgn; rw [if_neg a, if_neg b])
    go_enter Tryz.func100, Tryz.ntmps100
    go_wp2_with fail
    go_ret
    exact ⟨by rw [H.out]; rfl, rfl⟩

theorem ret_i64 {a b : Int} (h : a = b) : Ending.returned (.int .i64 a) = Ending.returned (.int .i64 b) := by rw [h]

end Go.Proofs.YtfiocnjogbpgoaaGreatDoor
namespace Go.Proofs.YtfiocnjogbpgoaaGreatDoor
open Go.RowKit

/-- The first number that is not 0. -/
theorem orI_any (l : List Int) (p cap : Nat) (w : World) (hz : ∀ i, i < l.length → w.cell? ⟨p, i, none⟩ = some (.int .i64 (l.getD i 0))) (hl : l.length ≤ 100) :
    Calls Tryz.prog 107 #[.slice (some ⟨p, 0, none⟩) l.length cap] w fun e w' => e = .returned (.int .i64 (firstZ l)) ∧ w = w' := by
  go_enter Tryz.func107, Tryz.ntmps107
  go_wp2_with fail
  go_loop [8] (fun c => ∃ k : Nat, k ≤ l.length ∧ c = .int .i64 k ∧ firstZ (l.drop k) = firstZ l) (fun c => l.length - (intOf c).toNat)
  case atStart => exact ⟨0, Nat.zero_le _, rfl, rfl⟩
  case round =>
    obtain ⟨k, hk, rfl, hf⟩ := hrel
    have HF := Lib.hid hf
    clear hf
    by_cases hlt : k < l.length
    · have hc := hz k hlt
      have HD := Lib.hid (show firstZ (l.drop k) = if l.getD k 0 = 0 then firstZ (l.drop (k + 1)) else l.getD k 0 by rw [List.drop_eq_getElem_cons hlt, firstZ, List.getD_eq_getElem?_getD, List.getElem?_eq_getElem hlt]; rfl)
      generalize l.getD k 0 = x at hc HD
      clear hz
      by_cases hx : x = 0
      · have HX := Lib.hid hx
        have b0 : (x != 0) = false := by simp [hx]
        clear hx
        go_wp2_with fail
        go_round
        case rel => exact ⟨k + 1, by omega, by go_num, by rw [← HF.out, HD.out, if_pos HX.out]⟩
        case measure => simp [intOf]; omega
      · have HX := Lib.hid hx
        have b0 : (x != 0) = true := by simp [hx]
        clear hx
        go_wp2_with fail
        go_ret
        exact ⟨by rw [← HF.out, HD.out, if_neg HX.out]; rfl, rfl⟩
    · have hkl : k = l.length := by omega
      have HK := Lib.hid hkl
      clear hkl hz
      go_wp2_with fail
      go_ret
      exact ⟨by rw [← HF.out, HK.out, List.drop_length]; rfl, rfl⟩

/-- Two numbers compared. -/
def cmpZ (x y : Int) : Int := if x < y then -1 else if y < x then 1 else 0

set_option maxHeartbeats 400000 in
theorem isNaN_any (x : Int) (w : World) : Calls Tryz.prog 354 #[.int .u64 x] w fun e w' => e = .returned (.bool false) ∧ w = w' := by
  go_enter Tryz.func354, Tryz.ntmps354
  go_wp2
  go_ret
  exact ⟨rfl, rfl⟩

set_option maxHeartbeats 400000 in
theorem cmpU_any (x y : Int) (w : World) : Calls Tryz.prog 320 #[.int .u64 x, .int .u64 y] w fun e w' => e = .returned (.int .i64 (cmpZ x y)) ∧ w = w' := by
  have hn : x < y ∨ (¬ x < y ∧ y < x) ∨ (¬ x < y ∧ ¬ y < x) := by omega
  rcases hn with a | ⟨a, b⟩ | ⟨a, b⟩
  · have H := Lib.hid (show cmpZ x y = -1 from if_pos a)
    go_enter Tryz.func320, Tryz.ntmps320
    go_wp2_with (go_at_call 354; refine (isNaN_any _ _).mono ?_; rintro e w' ⟨rfl, rfl⟩)
    go_ret
    exact ⟨ret_i64 H.out.symm, rfl⟩
  · have H := Lib.hid (show cmpZ x y = 1 by unfold cmpZ; rw [if_neg a, if_pos b])
    go_enter Tryz.func320, Tryz.ntmps320
    go_wp2_with (go_at_call 354; refine (isNaN_any _ _).mono ?_; rintro e w' ⟨rfl, rfl⟩)
    go_ret
    exact ⟨ret_i64 H.out.symm, rfl⟩
  · have H := Lib.hid (show cmpZ x y = 0 by unfold cmpZ; rw [if_neg a, if_neg b])
    go_enter Tryz.func320, Tryz.ntmps320
    go_wp2_with (go_at_call 354; refine (isNaN_any _ _).mono ?_; rintro e w' ⟨rfl, rfl⟩)
    go_ret
    exact ⟨ret_i64 H.out.symm, rfl⟩

theorem cmpW_halves (hi lo h l : Int) (s : Bool) (h1 : 0 ≤ hi) (h2 : hi < 18446744073709551616) (h3 : 0 ≤ lo) (h4 : lo < 18446744073709551616)
    (k1 : 0 ≤ h) (k2 : h < 18446744073709551616) (k3 : 0 ≤ l) (k4 : l < 18446744073709551616) : firstZ [cmpZ hi h, cmpZ lo l] = cmpW (num hi lo) s (num h l) s := by
  rw [firstZ_two]
  unfold cmpZ cmpW num
  rw [if_pos rfl]
  by_cases a : hi < h
  · rw [if_pos a, if_neg (by decide), if_pos (by omega)]
  · rw [if_neg a]
    by_cases b : h < hi
    · rw [if_pos b, if_neg (by decide), if_neg (by omega), if_neg (by omega)]
    · rw [if_neg b, if_pos rfl]
      have e : hi = h := by omega
      subst e
      by_cases c : lo < l
      · rw [if_pos c, if_pos (by omega)]
      · rw [if_neg c]
        by_cases d : l < lo
        · rw [if_pos d, if_neg (by omega), if_neg (by omega)]
        · rw [if_neg d, if_neg (by omega), if_pos (by omega)]

end Go.Proofs.YtfiocnjogbpgoaaGreatDoor
namespace Go.Proofs.YtfiocnjogbpgoaaGreatDoor
open Go.RowKit

/-- Does a protocol have ports? -/
def used (p : Int) : Bool := p == 6 || p == 17
set_option maxHeartbeats 400000 in
theorem usedBy_any (p : Int) (w : World) :
    Calls Tryz.prog 170 #[.int .i64 p] w fun e w' => e = .returned (.bool (used p)) ∧ w = w' := by
  by_cases h : p = 6
  · subst h
    go_enter Tryz.func170, Tryz.ntmps170
    go_wp2_with fail
    go_ret
    exact ⟨rfl, rfl⟩
  · have b0 : (p == 6) = false := by simp [h]
    have H := Lib.hid (show (p == 17) = used p by unfold used; rw [b0]; rfl)
    clear h
    go_enter Tryz.func170, Tryz.ntmps170
    go_wp2_with fail
    go_ret
    exact ⟨by rw [← H.out]; rfl, rfl⟩
end Go.Proofs.YtfiocnjogbpgoaaGreatDoor
