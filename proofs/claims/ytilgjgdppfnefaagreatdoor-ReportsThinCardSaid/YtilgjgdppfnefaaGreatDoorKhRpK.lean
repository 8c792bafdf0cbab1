/- Reports: how the reference reads a key. -/
import Derived.Test.YtilgjgdppfnefaaGreatDoorKhRpJ
import Derived.Test.YtilgjgdppfnefaaGreatDoorKhRpG
namespace Go.Proofs.YtilgjgdppfnefaaGreatDoor
open Go.RowKit
set_option linter.unusedVariables false
set_option linter.unusedSimpArgs false

theorem keyB_cons (c : UInt8) (r : List UInt8) : keyB (c :: r) = (decide (r.length < 40) && smlB c && (c :: r).all inkB) := rfl
theorem first_byte (c : UInt8) (r : List UInt8) : (⟨(c :: r).toArray⟩ : ByteArray).extract 0 1 = ⟨[c].toArray⟩ := by
  apply ByteArray.ext
  simp [ByteArray.data_extract]
theorem all_smalls (l : List UInt8) : l.all (smalls.contains ·) = l.all smlB := by
  congr 1; funext c; exact smalls_eq c
theorem all_keyBytes (l : List UInt8) : l.all (keyBytes.contains ·) = l.all inkB := by
  congr 1; funext c; exact keyBytes_eq c

set_option maxHeartbeats 2000000 in
set_option maxRecDepth 100000 in
theorem refKey_any (l : List UInt8) (w : World) (hl : l.length ≤ 1000) : Calls Tryz.prog 35 #[.string ⟨l.toArray⟩] w (GivesV (.bool (keyB l)) w) := by
  have HI := Lib.hid (fun w' => in_any (l.length : Int) 1 40 w')
  by_cases h1 : inB (l.length : Int) 1 40 = true
  · rw [h1] at HI
    obtain ⟨c, r, rfl⟩ : ∃ c r, l = c :: r := by
      cases l with
      | nil => exact absurd h1 (by decide)
      | cons c r => exact ⟨c, r, rfl⟩
    have hr : r.length < 40 := by
      simp [inB] at h1; omega
    have H1 : Hid (∀ w', Calls Tryz.prog 63 #[.string ((⟨(c :: r).toArray⟩ : ByteArray).extract 0 1), .string ⟨#[97, 98, 99, 100, 101, 102, 103, 104, 105, 106, 107, 108, 109, 110, 111, 112, 113, 114, 115, 116, 117, 118, 119, 120, 121, 122]⟩] w' (GivesV (.bool (smlB c)) w')) := Lib.hid (fun w' => by
      rw [first_byte c r]
      exact onlyR_any (smlB c) [c] smalls w' (by simp) (by decide) (by decide) (by rw [all_smalls]; simp))
    have hk : keyB (c :: r) = (smlB c && (c :: r).all inkB) := by rw [keyB_cons, decide_eq_true hr, Bool.true_and]
    rw [hk]
    have H2 : Hid (∀ w', Calls Tryz.prog 63 #[.string ⟨(c :: r).toArray⟩, .string ⟨#[97, 98, 99, 100, 101, 102, 103, 104, 105, 106, 107, 108, 109, 110, 111, 112, 113, 114, 115, 116, 117, 118, 119, 120, 121, 122, 48, 49, 50, 51, 52, 53, 54, 55, 56, 57, 45, 95]⟩] w' (GivesV (.bool ((c :: r).all inkB)) w')) := Lib.hid (fun w' =>
      onlyR_any ((c :: r).all inkB) (c :: r) keyBytes w' (by simp; omega) (by decide) (by decide) (by rw [all_keyBytes]))
    generalize (c :: r).all inkB = q2 at H2
    generalize smlB c = q1 at H1
    clear hk h1
    cases q1
    · clear H2
      go_enter Tryz.func35, Tryz.ntmps35
      go_wp2_with fail
      refine (HI.out _).mono ?_
      rintro e w1 ⟨rfl, rfl⟩
      go_wp2_with fail
      refine (H1.out _).mono ?_
      rintro e w1 ⟨rfl, hb⟩
      go_wp2_with fail
      go_ret
      exact ⟨rfl, hb⟩
    · cases q2
      all_goals
        go_enter Tryz.func35, Tryz.ntmps35
        go_wp2_with fail
        refine (HI.out _).mono ?_
        rintro e w1 ⟨rfl, rfl⟩
        go_wp2_with fail
        refine (H1.out _).mono ?_
        rintro e w1 ⟨rfl, hb⟩
        go_wp2_with fail
        refine (H2.out _).mono ?_
        rintro e w2 ⟨rfl, hb2⟩
        go_wp2_with fail
        go_ret
        exact ⟨rfl, hb.trans (hb2.mono hb.size)⟩
  · have h1' : inB (l.length : Int) 1 40 = false := by simpa using h1
    rw [h1'] at HI
    have hk : keyB l = false := by
      cases l with
      | nil => rfl
      | cons c r =>
        rw [keyB_cons, decide_eq_false, Bool.false_and, Bool.false_and]
        simp [inB] at h1'; omega
    rw [hk]
    clear hk h1 h1'
    go_enter Tryz.func35, Tryz.ntmps35
    go_wp2_with fail
    refine (HI.out _).mono ?_
    rintro e w1 ⟨rfl, rfl⟩
    go_wp2_with fail
    go_ret
    exact ⟨rfl, Below.refl _ _⟩
end Go.Proofs.YtilgjgdppfnefaaGreatDoor
