/- The longest row of zeros, as the program finds it. -/
import Derived.Test.YtokeeimppbiokaaGreatDoorTxtA
namespace Go.Proofs.YtokeeimppbiokaaGreatDoor
open Go.RowKit

theorem tw_next : ∀ (l : List Bool) (k : Nat), k ≤ (l.takeWhile id).length → (l[k]? = some true → k + 1 ≤ (l.takeWhile id).length) ∧ (l[k]? ≠ some true → (l.takeWhile id).length = k)
  | [], k, h => by simp at h; subst h; simp
  | true :: r, 0, _ => by simp
  | false :: r, 0, _ => by simp
  | false :: r, k + 1, h => by simp at h
  | true :: r, k + 1, h => by
    have := tw_next r k (by simpa using h)
    simpa using this
theorem run_next (z : List Bool) (i k : Nat) (h : k ≤ runZ z i) : (z[i + k]? = some true → k + 1 ≤ runZ z i) ∧ (z[i + k]? ≠ some true → runZ z i = k) := by
  have := tw_next (z.drop i) k h
  simpa [runZ, List.getElem?_drop] using this
theorem run_le (z : List Bool) (i : Nat) (h : i ≤ z.length) : i + runZ z i ≤ z.length := by
  unfold runZ
  have := (List.takeWhile_prefix id (l := z.drop i)).length_le
  simp at this
  omega
theorem flag_at {gs : List Nat} {j g : Nat} (h : gs[j]? = some g) : (flagsZ gs)[j]? = some (g == 0) := by simp [flagsZ, h]

theorem lz_up {z : List Bool} {i k : Nat} (h : runZ z i = k) (hlt : (lzTo z i).2 < k) : i = (lzTo z (i + 1)).1 ∧ k = (lzTo z (i + 1)).2 := by
  rw [lzTo_succ, lzStep, h, if_pos hlt]; exact ⟨rfl, rfl⟩
theorem lz_stay {z : List Bool} {i k : Nat} (h : runZ z i = k) (hlt : ¬ (lzTo z i).2 < k) : lzTo z i = lzTo z (i + 1) := by
  rw [lzTo_succ, lzStep, h, if_neg hlt]

set_option maxHeartbeats 1000000 in
set_option maxRecDepth 100000 in
theorem longest_any (A : Option Addr) (cap : Nat) (gs : List Nat) (w : World) (h8 : gs.length = 8) (hS : SlN .u64 w A 8 cap gs) :
    Calls Tryz.prog 73 #[.slice A 8 cap] w fun e w' => e = .returned (.tuple #[.int .i64 ((lzTo (flagsZ gs) 8).1 : Int), .int .i64 ((lzTo (flagsZ gs) 8).2 : Int)]) ∧ w = w' := by
  obtain ⟨h9, _, h0 | ⟨b, off, rfl, hb, hc⟩⟩ := hS
  · omega
  clear h9
  have hz8 := flagsZ_length gs
  rw [h8] at hz8
  replace h8 := Lib.hid h8
  obtain ⟨z, hz⟩ : ∃ z, z = flagsZ gs := ⟨_, rfl⟩
  rw [← hz] at hz8
  rw [← hz]
  replace hz := Lib.hid hz
  have H8 := Lib.hid hz8
  clear hz8
  go_enter Tryz.func73, Tryz.ntmps73
  go_wp2_with fail
  go_loop [2, 3, 8] (fun a n i => ∃ k : Nat, k ≤ 8 ∧ i = .int .i64 k ∧ a = .int .i64 ((lzTo z k).1 : Int) ∧ n = .int .i64 ((lzTo z k).2 : Int)) (fun _ _ i => 8 - (intOf i).toNat)
  case atStart => exact ⟨0, by omega, rfl, rfl, rfl⟩
  case round =>
    obtain ⟨i, hi, rfl, rfl, rfl⟩ := hrel
    by_cases hlt : i < 8
    · go_wp2_with fail
      go_loop [5] (fun c => ∃ k : Nat, k ≤ runZ z i ∧ c = .int .i64 k) (fun c => 8 - (intOf c).toNat)
      case atStart => exact ⟨0, Nat.zero_le _, rfl⟩
      case round =>
        obtain ⟨k, hk, rfl⟩ := hrel
        have hr8 := run_le z i (by rw [H8.out]; omega)
        rw [H8.out] at hr8
        have HN := Lib.hid (run_next z i k hk)
        by_cases hin : i + k < 8
        · obtain ⟨g, hg⟩ : ∃ g, gs[i + k]? = some g := ⟨gs[i + k]'(by rw [h8.out]; omega), List.getElem?_eq_getElem _⟩
          have hcell := hc (i + k) (.int .u64 (g : Int)) (by rw [List.getElem?_map, hg]; rfl)
          have hfl : z[i + k]? = some (g == 0) := by rw [hz.out]; exact flag_at hg
          have hsum : (i : Int) + (k : Int) < 8 := by omega
          by_cases hg0 : g = 0
          · subst hg0
            have hnext := HN.out.1 (by simpa using hfl)
            clear hfl hg
            go_wp2_with fail
            go_round
            case rel => exact ⟨k + 1, hnext, by go_num⟩
            case measure => simp [intOf]; omega
          · have hb0 : ((g : Int) == 0) = false := by simp; omega
            have hnext := Lib.hid (HN.out.2 (by rw [hfl]; simpa using hg0))
            clear hfl hg hg0
            go_wp2_with fail
            · have hup : (lzTo z i).2 < k := by assumption
              go_round
              case rel => exact ⟨i + 1, by omega, by go_num, by rw [← (lz_up hnext.out hup).1], by rw [← (lz_up hnext.out hup).2]⟩
              case measure => simp [intOf]; omega
            · have hup : ¬ (lzTo z i).2 < k := by assumption
              go_round
              case rel => exact ⟨i + 1, by omega, by go_num, by rw [← lz_stay hnext.out hup], by rw [← lz_stay hnext.out hup]⟩
              case measure => simp [intOf]; omega
        · have hnext := Lib.hid (HN.out.2 (by rw [List.getElem?_eq_none (by rw [H8.out]; omega)]; simp))
          have hsum : ¬ (i : Int) + (k : Int) < 8 := by omega
          go_wp2_with fail
          · have hup : (lzTo z i).2 < k := by assumption
            go_round
            case rel => exact ⟨i + 1, by omega, by go_num, by rw [← (lz_up hnext.out hup).1], by rw [← (lz_up hnext.out hup).2]⟩
            case measure => simp [intOf]; omega
          · have hup : ¬ (lzTo z i).2 < k := by assumption
            go_round
            case rel => exact ⟨i + 1, by omega, by go_num, by rw [← lz_stay hnext.out hup], by rw [← lz_stay hnext.out hup]⟩
            case measure => simp [intOf]; omega
    · obtain rfl : i = 8 := by omega
      go_wp2_with fail
      go_ret2
      exact ⟨rfl, rfl⟩
end Go.Proofs.YtokeeimppbiokaaGreatDoor
