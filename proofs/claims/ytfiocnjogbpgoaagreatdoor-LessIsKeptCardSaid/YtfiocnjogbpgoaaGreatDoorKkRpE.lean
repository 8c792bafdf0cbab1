/- Keys, program and reference. -/
import Derived.Test.YtfiocnjogbpgoaaGreatDoorKkRpD
import Derived.Test.YtfiocnjogbpgoaaGreatDoorKkMdD
namespace Go.Proofs.YtfiocnjogbpgoaaGreatDoor
open Go.RowKit
set_option linter.unusedVariables false
set_option linter.unusedSimpArgs false

set_option maxHeartbeats 2000000 in
set_option maxRecDepth 100000 in
theorem isKey_any (l : List UInt8) (w : World) : Calls Tryz.prog 169 #[.string ⟨l.toArray⟩] w fun e w' => e = .returned (.bool (keyB l)) ∧ w' = w := by
  cases l with
  | nil =>
    have hV := Lib.hid (show keyB [] = false from rfl)
    rw [hV.out]
    go_enter Tryz.func169, Tryz.ntmps169
    go_wp2_with fail
    go_ret
    exact ⟨rfl, rfl⟩
  | cons c r =>
    obtain ⟨R, hR⟩ : ∃ R, R = keyB (c :: r) := ⟨_, rfl⟩
    rw [← hR]
    have hR' : R = (decide (r.length < 40) && smlB c && (c :: r).all inkB) := hR
    have hlen : (c :: r).length = r.length + 1 := rfl
    have hemp : (c :: r).isEmpty = false := rfl
    have hk0 : 0 < (⟨(c :: r).toArray⟩ : ByteArray).size := by rw [Lib.size_eq]; exact Nat.succ_pos _
    have hc0 : (⟨(c :: r).toArray⟩ : ByteArray)[0]'hk0 = c := rfl
    generalize hl : c :: r = l at *
    have HS := fun W => Lib.hid (smallK_any c W)
    clear hR
    by_cases h40 : 40 ≤ r.length
    · have hV := Lib.hid (show R = false by rw [hR', decide_eq_false (by omega), Bool.false_and, Bool.false_and])
      have h40' : (40 : Int) < l.length := by omega
      clear hR' HS h40 hl
      go_enter Tryz.func169, Tryz.ntmps169
      go_wp2_with fail
      go_ret
      exact ⟨by rw [hV.out]; rfl, rfl⟩
    · rw [decide_eq_true (show r.length < 40 by omega), Bool.true_and] at hR'
      have h40' : ¬ (40 : Int) < l.length := by omega
      have hpos : 0 < l.length := by omega
      cases hs : smlB c
      · rw [hs, Bool.false_and] at hR'
        rw [hs] at HS
        replace hR' := Lib.hid hR'
        clear hs hl h40 hlen
        go_enter Tryz.func169, Tryz.ntmps169
        go_wp2_with fail
        refine (HS _).out.mono ?_
        rintro e w1 ⟨rfl, rfl⟩
        go_wp2_with fail
        go_ret
        exact ⟨by rw [hR'.out]; rfl, rfl⟩
      · rw [hs, Bool.true_and] at hR'
        rw [hs] at HS
        replace hR' := Lib.hid hR'
        clear hs hl h40 hlen
        go_enter Tryz.func169, Tryz.ntmps169
        go_wp2_with fail
        refine (HS _).out.mono ?_
        rintro e w1 ⟨rfl, rfl⟩
        clear HS hc0
        go_wp2_with fail
        go_loopw [19] (fun vi wr => ∃ k : Nat, k ≤ l.length ∧ vi = .int .i64 k ∧ Hid ((l.take k).all inkB = true) ∧ wr = w) (fun vi _ => l.length - (intOf vi).toNat)
        case atStart => exact ⟨0, Nat.zero_le _, rfl, Lib.hid rfl, rfl⟩
        case round =>
          obtain ⟨k, hk, rfl, hI, rfl⟩ := hrel
          by_cases hlt : k < l.length
          · have hk' : k < (⟨l.toArray⟩ : ByteArray).size := by rw [Lib.size_eq]; exact hlt
            obtain ⟨b, hb⟩ : ∃ b, b = (⟨l.toArray⟩ : ByteArray)[k]'hk' := ⟨_, rfl⟩
            have hbl : l[k]? = some b := by rw [hb, List.getElem?_eq_getElem hlt]; rfl
            have HC := fun W => Lib.hid (inKey_any b W)
            replace hb := hb.symm
            have htk := Lib.hid (all_takeB (p := inkB) hbl hI.out)
            have hbad := Lib.hid (all_badB (p := inkB) hbl)
            clear hbl
            cases hq : inkB b
            · have hY := Lib.hid (hbad.out hq)
              rw [hq] at HC
              clear hq htk hbad
              go_wp2_with fail
              refine (HC _).out.mono ?_
              rintro e w2 ⟨rfl, rfl⟩
              go_wp2_with fail
              go_ret
              exact ⟨by rw [hR'.out, hY.out]; rfl, rfl⟩
            · have hY := Lib.hid (htk.out hq)
              rw [hq] at HC
              clear hq htk hbad
              go_wp2_with fail
              refine (HC _).out.mono ?_
              rintro e w2 ⟨rfl, rfl⟩
              go_wp2_with fail
              go_roundw
              case rel => exact ⟨k + 1, by omega, by go_num, hY, trivial⟩
              case measure => simp [intOf]; omega
          · have hY := Lib.hid (show l.all inkB = true by have := hI.out; rwa [List.take_of_length_le (by omega)] at this)
            go_wp2_with fail
            go_ret
            exact ⟨by rw [hR'.out, hY.out]; rfl, rfl⟩
theorem key_any (l : List UInt8) (w : World) : Calls Tryz.prog 105 #[.string ⟨l.toArray⟩] w fun e w' => e = .returned (.int .i64 (if keyB l then 0 else 5)) ∧ w' = w := by
  have HK := Lib.hid (isKey_any l w)
  have HN := Lib.hid (needI_any (keyB l) 5 w)
  generalize keyB l = q at *
  cases q
  all_goals
    go_enter Tryz.func105, Tryz.ntmps105
    go_wp2_with fail
    refine HK.out.mono ?_
    rintro e w1 ⟨rfl, rfl⟩
    go_wp2_with fail
    refine HN.out.mono ?_
    rintro e w1 ⟨rfl, rfl⟩
    go_wp2_with fail
    go_ret
    exact ⟨rfl, rfl⟩

/-! The reference. -/
end Go.Proofs.YtfiocnjogbpgoaaGreatDoor
