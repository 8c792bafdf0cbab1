/- Addresses' errors, in, the first error. -/
import Derived.Test.YtigbbpgfblnboaaLaneB
import Derived.ChangeAlike
namespace Go.Proofs.Ytigbbpgfblnboaa
open Go.RowKit

/-- A value is returned; what was there is as it was. -/
def GivesV (v : Value) (w : World) (e : Ending) (w' : World) : Prop := e = .returned v ∧ Below w.heap.size w w'

/-- Is n from lo to hi? -/
def inB (n lo hi : Int) : Bool := decide (lo ≤ n ∧ n ≤ hi)

set_option maxHeartbeats 400000 in
theorem in_any (n lo hi : Int) (w : World) :
    Calls Try.prog 38 #[.int .i64 n, .int .i64 lo, .int .i64 hi] w fun e w' => e = .returned (.bool (inB n lo hi)) ∧ w = w' := by
  by_cases h1 : lo ≤ n
  · by_cases h2 : n ≤ hi
    · go_enter Try.func38, Try.ntmps38
      go_wp2_with fail
      go_ret
      exact ⟨by unfold inB; rw [decide_eq_true (by omega)]; rfl, rfl⟩
    · go_enter Try.func38, Try.ntmps38
      go_wp2_with fail
      go_ret
      exact ⟨by unfold inB; rw [decide_eq_false (by omega)]; rfl, rfl⟩
  · go_enter Try.func38, Try.ntmps38
    go_wp2_with fail
    go_ret
    exact ⟨by unfold inB; rw [decide_eq_false (by omega)]; rfl, rfl⟩

/-- CheckAddr's error: 3 or 0. -/
def adF (s : Bool) (hi lo : Int) : Int := if s = false ∧ (hi ≠ 0 ∨ 4294967296 ≤ lo) then 3 else 0

set_option maxHeartbeats 400000 in
theorem addrFault_any (s : Bool) (hi lo : Int) (w : World) (h1 : 0 ≤ hi) :
    Calls Try.prog 44 #[.agg #[.bool s, .int .u64 hi, .int .u64 lo]] w (GivesV (.int .i64 (adF s hi lo)) w) := by
  cases s
  · by_cases h : 0 < hi
    · have H := Lib.hid (show adF false hi lo = 3 from if_pos ⟨rfl, .inl (by omega)⟩)
      go_enter Try.func44, Try.ntmps44
      go_wp2_with fail
      go_ret
      exact ⟨by rw [H.out]; rfl, (Below.refl _ _).alloc (Nat.le_refl _) _⟩
    · by_cases h' : 4294967295 < lo
      · have H := Lib.hid (show adF false hi lo = 3 from if_pos ⟨rfl, .inr (by omega)⟩)
        go_enter Try.func44, Try.ntmps44
        go_wp2_with fail
        go_ret
        exact ⟨by rw [H.out]; rfl, (Below.refl _ _).alloc (Nat.le_refl _) _⟩
      · have H := Lib.hid (show adF false hi lo = 0 from if_neg (by omega))
        go_enter Try.func44, Try.ntmps44
        go_wp2_with fail
        go_ret
        exact ⟨by rw [H.out]; rfl, (Below.refl _ _).alloc (Nat.le_refl _) _⟩
  · go_enter Try.func44, Try.ntmps44
    go_wp2_with fail
    go_ret
    exact ⟨rfl, (Below.refl _ _).alloc (Nat.le_refl _) _⟩

theorem adF_two (s : Bool) (hi lo : Int) : adF s hi lo = 0 ∨ adF s hi lo = 3 := by unfold adF; split <;> simp

set_option maxHeartbeats 400000 in
theorem checkAddr_any (s : Bool) (hi lo : Int) (w : World) :
    Calls Try.prog 46 #[.agg #[.bool s, .int .u64 hi, .int .u64 lo]] w (GivesV (.int .i64 (adF s hi lo)) w) := by
  cases s
  · by_cases h : hi = 0
    · have b0 : (hi != 0) = false := by simp [h]
      by_cases h' : 4294967296 ≤ lo
      · have H := Lib.hid (show adF false hi lo = 3 from if_pos ⟨rfl, .inr (by omega)⟩)
        clear h
        go_enter Try.func46, Try.ntmps46
        go_wp2_with fail
        go_ret
        exact ⟨by rw [H.out]; rfl, (Below.refl _ _).alloc (Nat.le_refl _) _⟩
      · have H := Lib.hid (show adF false hi lo = 0 from if_neg (by omega))
        clear h
        go_enter Try.func46, Try.ntmps46
        go_wp2_with fail
        go_ret
        exact ⟨by rw [H.out]; rfl, (Below.refl _ _).alloc (Nat.le_refl _) _⟩
    · have b0 : (hi != 0) = true := by simp [h]
      have H := Lib.hid (show adF false hi lo = 3 from if_pos ⟨rfl, .inl (by omega)⟩)
      clear h
      go_enter Try.func46, Try.ntmps46
      go_wp2_with fail
      go_ret
      exact ⟨by rw [H.out]; rfl, (Below.refl _ _).alloc (Nat.le_refl _) _⟩
  · go_enter Try.func46, Try.ntmps46
    go_wp2_with fail
    go_ret
    exact ⟨rfl, (Below.refl _ _).alloc (Nat.le_refl _) _⟩

/-- The first of some errors. -/
def firstZ : List Int → Int
  | [] => 0
  | e :: r => if e = 0 then firstZ r else e

/-- The first error. -/
theorem or_any (l : List Int) (p cap : Nat) (w : World) (hz : ∀ i, i < l.length → w.cell? ⟨p, i, none⟩ = some (.int .i64 (l.getD i 0))) (hl : l.length ≤ 100) :
    Calls Try.prog 45 #[.slice (some ⟨p, 0, none⟩) l.length cap] w fun e w' => e = .returned (.int .i64 (firstZ l)) ∧ w = w' := by
  go_enter Try.func45, Try.ntmps45
  go_wp2_with fail
  go_loop [8] (fun c => ∃ k : Nat, k ≤ l.length ∧ c = .int .i64 k ∧ firstZ (l.drop k) = firstZ l) (fun c => l.length - (intOf c).toNat)
  case atStart => exact ⟨0, Nat.zero_le _, rfl, rfl⟩
  case round =>
    obtain ⟨k, hk, rfl, hf⟩ := hrel
    have HF := Lib.hid hf
    clear hf
    by_cases hlt : k < l.length
    · have hc := hz k hlt
      have HD := Lib.hid (show firstZ (l.drop k) = if l.getD k 0 = 0 then firstZ (l.drop (k + 1)) else l.getD k 0 by rw [List.drop_eq_getElem_cons hlt, firstZ, List.getD_eq_getElem?_getD, List.getElem?_eq_getElem hlt]; rfl)
      generalize l.getD k 0 = x at hc HD
      clear hz
      by_cases hx : x = 0
      · have HX := Lib.hid hx
        have b0 : (x != 0) = false := by simp [hx]
        clear hx
        go_wp2_with fail
        go_round
        case rel => exact ⟨k + 1, by omega, by go_num, by rw [← HF.out, HD.out, if_pos HX.out]⟩
        case measure => simp [intOf]; omega
      · have HX := Lib.hid hx
        have b0 : (x != 0) = true := by simp [hx]
        clear hx
        go_wp2_with fail
        go_ret
        exact ⟨by rw [← HF.out, HD.out, if_neg HX.out]; rfl, rfl⟩
    · have hkl : k = l.length := by omega
      have HK := Lib.hid hkl
      clear hkl hz
      go_wp2_with fail
      go_ret
      exact ⟨by rw [← HF.out, HK.out, List.drop_length]; rfl, rfl⟩
end Go.Proofs.Ytigbbpgfblnboaa
