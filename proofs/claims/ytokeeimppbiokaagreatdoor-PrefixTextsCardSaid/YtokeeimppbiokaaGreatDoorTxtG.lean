/- Whether a slice of numerals has one that is not zero: slices.ContainsFunc with the reference's closure. -/
import Derived.Test.YtokeeimppbiokaaGreatDoorTxtC
namespace Go.Proofs.YtokeeimppbiokaaGreatDoor
open Go.RowKit

theorem ba_eq (l : List UInt8) : ((⟨l.toArray⟩ : ByteArray) = ⟨#[48]⟩) ↔ l = [48] := by
  constructor
  · intro h
    have := congrArg (fun b : ByteArray => b.data.toList) h
    simpa using this
  · rintro rfl; rfl

theorem ret_b {a b : Bool} (h : a = b) : Ending.returned (.bool a) = Ending.returned (.bool b) := by rw [h]

set_option maxHeartbeats 400000 in
theorem clo_any (l : List UInt8) (w : World) : Calls Tryz.prog 48 #[sv l] w fun e w' => e = .returned (.bool (decide (l ≠ [48]))) ∧ w = w' := by
  by_cases h : l = [48]
  · subst h
    go_enter Tryz.func48, Tryz.ntmps48
    go_wp2_with fail
    go_ret
    exact ⟨rfl, rfl⟩
  · have h' : ¬ ((⟨l.toArray⟩ : ByteArray) = ⟨#[48]⟩) := fun e => h ((ba_eq l).1 e)
    have HR : Hid ((!l == [48]) = decide (l ≠ [48])) := Lib.hid (by simp [h])
    clear h
    go_enter Tryz.func48, Tryz.ntmps48
    go_wp2_with fail
    go_ret
    exact ⟨ret_b HR.out, rfl⟩

/-- Is a numeral not that of zero? -/
def nz (l : List UInt8) : Bool := decide (l ≠ [48])
/-- An index is returned that is not below 0 just if b holds. -/
def IdxPost (b : Bool) (w : World) (e : Ending) (w' : World) : Prop := ∃ r : Int, decide (0 ≤ r) = b ∧ e = .returned (.int .i64 r) ∧ w = w'

theorem any_hit {ls : List (List UInt8)} {k : Nat} {l : List UInt8} (h : ls[k]? = some l) (hn : nz l = true) : ls.any nz = true := List.any_eq_true.2 ⟨l, List.mem_of_getElem? h, hn⟩
theorem any_miss {ls : List (List UInt8)} {k : Nat} {l : List UInt8} (h : ls[k]? = some l) (hn : nz l = false) (ha : (ls.take k).any nz = false) : (ls.take (k + 1)).any nz = false := by
  rw [take_next h, List.any_append, ha]; simp [hn]

set_option maxHeartbeats 1000000 in
set_option maxRecDepth 100000 in
theorem indexF_any (A : Option Addr) (n cap : Nat) (ls : List (List UInt8)) (w : World) (hn : n ≤ 1000) (hS : Sl w A n cap (ls.map sv)) :
    Calls Tryz.prog 72 #[.slice A n cap, .func (.func 48) #[] #[]] w (IdxPost (ls.any nz) w) := by
  have hlen : Hid (n = ls.length) := Lib.hid (by simpa using hS.1)
  have hS2 := Lib.hid hS.2.2
  clear hS
  go_enter Tryz.func72, Tryz.ntmps72
  go_wp2_with fail
  go_loop [8, 5] (fun i _ => ∃ k : Nat, k ≤ n ∧ i = .int .i64 k ∧ Hid ((ls.take k).any nz = false)) (fun i _ => n - (intOf i).toNat)
  case atStart => exact ⟨0, Nat.zero_le _, rfl, Lib.hid (by simp)⟩
  case round =>
    obtain ⟨k, hk, rfl, hno⟩ := hrel
    by_cases hlt : k < n
    · obtain ⟨l, hl⟩ : ∃ l, ls[k]? = some l := ⟨ls[k]'(by rw [← hlen.out]; omega), List.getElem?_eq_getElem _⟩
      obtain ⟨b, off, rfl, hb, hc⟩ : ∃ b off, A = some ⟨b, off, none⟩ ∧ b < w.heap.size ∧ ∀ j u, (ls.map sv)[j]? = some u → w.cell? ⟨b, off + j, none⟩ = some u := by
        rcases hS2.out with h | h
        · omega
        · exact h
      have hcell : w.cell? ⟨b, off + k, none⟩ = some (sv l) := hc k _ (by rw [List.getElem?_map, hl]; rfl)
      have hlt' : (k : Int) < (n : Int) := by omega
      have HL := Lib.hid hl
      have HC := fun w' => Lib.hid (clo_any l w')
      clear hc hl
      cases hq : decide (l ≠ [48])
      · rw [hq] at HC
        have HN := Lib.hid (any_miss HL.out hq hno.out)
        clear hq
        go_wp2_with fail
        refine (HC _).out.mono ?_
        rintro e w1 ⟨rfl, rfl⟩
        go_wp2_with fail
        go_round
        case rel => exact ⟨k + 1, by omega, by go_num, HN⟩
        case measure => simp [intOf]; omega
      · rw [hq] at HC
        have HN := Lib.hid (any_hit HL.out hq)
        clear hq
        go_wp2_with fail
        refine (HC _).out.mono ?_
        rintro e w1 ⟨rfl, rfl⟩
        go_wp2_with fail
        go_ret
        exact ⟨_, by rw [HN.out]; simp, rfl, rfl⟩
    · obtain rfl : k = n := by omega
      go_wp2_with fail
      go_ret
      refine ⟨_, ?_, rfl, rfl⟩
      have := hno.out
      rw [List.take_of_length_le (by rw [← hlen.out]; omega)] at this
      rw [this]; rfl

set_option maxHeartbeats 1000000 in
theorem containsF_any (A : Option Addr) (n cap : Nat) (ls : List (List UInt8)) (w : World) (hn : n ≤ 1000) (hS : Sl w A n cap (ls.map sv)) :
    Calls Tryz.prog 47 #[.slice A n cap, .func (.func 48) #[] #[]] w fun e w' => e = .returned (.bool (ls.any nz)) ∧ w = w' := by
  have HI := Lib.hid (indexF_any A n cap ls w hn hS)
  clear hS
  go_enter Tryz.func47, Tryz.ntmps47
  go_wp2_with fail
  refine HI.out.mono ?_
  rintro e w1 ⟨r, hr, rfl, rfl⟩
  have HR := Lib.hid hr
  clear hr
  go_wp2_with fail
  go_ret
  exact ⟨ret_b HR.out, rfl⟩
end Go.Proofs.YtokeeimppbiokaaGreatDoor
