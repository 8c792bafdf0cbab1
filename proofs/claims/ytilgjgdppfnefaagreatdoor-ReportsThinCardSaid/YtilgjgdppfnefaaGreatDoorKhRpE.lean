/- Keys, program and reference. -/
import Derived.Test.YtilgjgdppfnefaaGreatDoorKhRpD
import Derived.Test.YtilgjgdppfnefaaGreatDoorKhMdD
namespace Go.Proofs.YtilgjgdppfnefaaGreatDoor
open Go.RowKit
set_option linter.unusedVariables false
set_option linter.unusedSimpArgs false

set_option maxHeartbeats 2000000 in
set_option maxRecDepth 100000 in
theorem isKey_any (l : List UInt8) (w : World) : Calls Tryz.prog 92 #[.string ⟨l.toArray⟩] w fun e w' => e = .returned (.bool (keyB l)) ∧ w' = w := by
  cases l with
  | nil =>
    have hV := Lib.hid (show keyB [] = false from rfl)
    rw [hV.out]
    go_enter Tryz.func92, Tryz.ntmps92
    go_wp2_with fail
    go_ret
    exact ⟨rfl, rfl⟩
  | cons c r =>
    obtain ⟨R, hR⟩ : ∃ R, R = keyB (c :: r) := ⟨_, rfl⟩
    rw [← hR]
    have hR' : R = (decide (r.length < 40) && smlB c && (c :: r).all inkB) := hR
    have hlen : (c :: r).length = r.length + 1 := rfl
    have hemp : (c :: r).isEmpty = false := rfl
    have hk0 : 0 < (⟨(c :: r).toArray⟩ : ByteArray).size := by rw [Lib.size_eq]; exact Nat.succ_pos _
    have hc0 : (⟨(c :: r).toArray⟩ : ByteArray)[0]'hk0 = c := rfl
    generalize hl : c :: r = l at *
    have HS := fun W => Lib.hid (smallK_any c W)
    clear hR
    by_cases h40 : 40 ≤ r.length
    · have hV := Lib.hid (show R = false by rw [hR', decide_eq_false (by omega), Bool.false_and, Bool.false_and])
      have h40' : (40 : Int) < l.length := by omega
      clear hR' HS h40 hl
      go_enter Tryz.func92, Tryz.ntmps92
      go_wp2_with fail
      go_ret
      exact ⟨by rw [hV.out]; rfl, rfl⟩
    · rw [decide_eq_true (show r.length < 40 by omega), Bool.true_and] at hR'
      have h40' : ¬ (40 : Int) < l.length := by omega
      have hpos : 0 < l.length := by omega
      cases hs : smlB c
      · rw [hs, Bool.false_and] at hR'
        rw [hs] at HS
        replace hR' := Lib.hid hR'
        clear hs hl h40 hlen
        go_enter Tryz.func92, Tryz.ntmps92
        go_wp2_with fail
        refine (HS _).out.mono ?_
        rintro e w1 ⟨rfl, rfl⟩
        go_wp2_with fail
        go_ret
        exact ⟨by rw [hR'.out]; rfl, rfl⟩
      · rw [hs, Bool.true_and] at hR'
        rw [hs] at HS
        replace hR' := Lib.hid hR'
        clear hs hl h40 hlen
        go_enter Tryz.func92, Tryz.ntmps92
        go_wp2_with fail
        refine (HS _).out.mono ?_
        rintro e w1 ⟨rfl, rfl⟩
        clear HS hc0
        go_wp2_with fail
        go_loopw [19] (fun vi wr => ∃ k : Nat, k ≤ l.length ∧ vi = .int .i64 k ∧ Hid ((l.take k).all inkB = true) ∧ wr = w) (fun vi _ => l.length - (intOf vi).toNat)
        case atStart => exact ⟨0, Nat.zero_le _, rfl, Lib.hid rfl, rfl⟩
        case round =>
          obtain ⟨k, hk, rfl, hI, rfl⟩ := hrel
          by_cases hlt : k < l.length
          · have hk' : k < (⟨l.toArray⟩ : ByteArray).size := by rw [Lib.size_eq]; exact hlt
            obtain ⟨b, hb⟩ : ∃ b, b = (⟨l.toArray⟩ : ByteArray)[k]'hk' := ⟨_, rfl⟩
            have hbl : l[k]? = some b := by rw [hb, List.getElem?_eq_getElem hlt]; rfl
            have HC := fun W => Lib.hid (inKey_any b W)
            replace hb := hb.symm
            have htk := Lib.hid (all_takeB (p := inkB) hbl hI.out)
            have hbad := Lib.hid (all_badB (p := inkB) hbl)
            clear hbl
            cases hq : inkB b
            · have hY := Lib.hid (hbad.out hq)
              rw [hq] at HC
              clear hq htk hbad
              go_wp2_with fail
              refine (HC _).out.mono ?_
              rintro e w2 ⟨rfl, rfl⟩
              go_wp2_with fail
              go_ret
              exact ⟨by rw [hR'.out, hY.out]; rfl, rfl⟩
            · have hY := Lib.hid (htk.out hq)
              rw [hq] at HC
              clear hq htk hbad
              go_wp2_with fail
              refine (HC _).out.mono ?_
              rintro e w2 ⟨rfl, rfl⟩
              go_wp2_with fail
              go_roundw
              case rel => exact ⟨k + 1, by omega, by go_num, hY, trivial⟩
              case measure => simp [intOf]; omega
          · have hY := Lib.hid (show l.all inkB = true by have := hI.out; rwa [List.take_of_length_le (by omega)] at this)
            go_wp2_with fail
            go_ret
            exact ⟨by rw [hR'.out, hY.out]; rfl, rfl⟩
theorem key_any (l : List UInt8) (w : World) : Calls Tryz.prog 65 #[.string ⟨l.toArray⟩] w fun e w' => e = .returned (.int .i64 (if keyB l then 0 else 5)) ∧ w' = w := by
  have HK := Lib.hid (isKey_any l w)
  have HN := Lib.hid (needI_any (keyB l) 5 w)
  generalize keyB l = q at *
  cases q
  all_goals
    go_enter Tryz.func65, Tryz.ntmps65
    go_wp2_with fail
    refine HK.out.mono ?_
    rintro e w1 ⟨rfl, rfl⟩
    go_wp2_with fail
    refine HN.out.mono ?_
    rintro e w1 ⟨rfl, rfl⟩
    go_wp2_with fail
    go_ret
    exact ⟨rfl, rfl⟩

/-! The reference. -/
theorem dropWhileR_nil {α : Type} (p : α → Bool) : ∀ l : List α, l.dropWhile p = [] ↔ l.all p = true
  | [] => by simp
  | a :: r => by
    rw [List.dropWhile_cons, List.all_cons]
    cases h : p a
    · simp
    · simpa using dropWhileR_nil p r
theorem dropWhileR_head {α : Type} (p : α → Bool) : ∀ (l : List α) (a : α) (r : List α), l.dropWhile p = a :: r → p a = false
  | [], _, _, h => by cases h
  | b :: l, a, r, h => by
    rw [List.dropWhile_cons] at h
    split at h
    · exact dropWhileR_head p l a r h
    · rename_i hb; cases h; simpa using hb
theorem trimSR_nil (l cs : List UInt8) : Lib.trimS l cs = [] ↔ l.all (cs.contains ·) = true := by
  unfold Lib.trimS Lib.trimLeftS
  rw [dropWhileR_nil]
  unfold Lib.trimRightS
  rw [List.all_reverse]
  constructor
  · intro h
    cases hd : l.reverse.dropWhile (cs.contains ·) with
    | nil => rw [dropWhileR_nil, List.all_reverse] at hd; exact hd
    | cons a r =>
      have h1 := dropWhileR_head _ _ _ _ hd
      rw [hd, List.all_cons, h1] at h
      cases h
  · intro h
    have : l.reverse.dropWhile (cs.contains ·) = [] := by rw [dropWhileR_nil, List.all_reverse]; exact h
    rw [this]; rfl
theorem trimR_empty (l cs : List UInt8) : (Lib.trimS l cs).isEmpty = l.all (cs.contains ·) := by
  have h := trimSR_nil l cs
  cases hb : l.all (cs.contains ·)
  · rw [hb] at h
    cases ht : Lib.trimS l cs with
    | nil => cases h.1 ht
    | cons _ _ => rfl
  · rw [h.2 hb]; rfl
theorem onlyR_any (r : Bool) (l cs : List UInt8) (w : World) (hl : l.length ≤ 100000) (hc : cs.length ≤ 100) (ha : cs.all (fun b => decide (b.toNat < 128)) = true) (hr : r = l.all (cs.contains ·)) :
    Calls Tryz.prog 63 #[.string ⟨l.toArray⟩, .string ⟨cs.toArray⟩] w (GivesV (.bool r) w) := by
  have HT : Hid (Calls Tryz.prog 91 #[.string ⟨l.toArray⟩, .string ⟨cs.toArray⟩] w fun e w' => e = .returned (.string ⟨(Lib.trimS l cs).toArray⟩) ∧ Below w.heap.size w w') := Lib.hid (
    Any.strings_Trim_laid Tryz.lays160 (by kernel_rfl) ⟨l.toArray⟩ ⟨cs.toArray⟩ w (by rw [Lib.size_eq]; exact Nat.le_trans hl (by decide)) (by rw [Lib.size_eq]; exact Nat.lt_of_le_of_lt hc (by decide)) (ascii_of_all ha))
  rw [← trimR_empty] at hr
  generalize Lib.trimS l cs = t at *
  replace hr := Lib.hid hr.symm
  clear ha
  have hr2 : t.isEmpty = r := hr.out
  cases r
  all_goals
    go_enter Tryz.func63, Tryz.ntmps63
    go_wp2_with fail
    refine HT.out.mono ?_
    rintro e w1 ⟨rfl, hb⟩
    go_wp2_with fail
    go_ret
    exact ⟨rfl, hb⟩
end Go.Proofs.YtilgjgdppfnefaaGreatDoor
