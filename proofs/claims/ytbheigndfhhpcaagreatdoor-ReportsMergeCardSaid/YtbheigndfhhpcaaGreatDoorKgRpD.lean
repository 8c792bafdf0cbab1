/- Keys. -/
import Derived.Test.YtbheigndfhhpcaaGreatDoorKgRpC
import Derived.Shelf.Strings.SlTrimAscii
namespace Go.Proofs.YtbheigndfhhpcaaGreatDoor
open Go.RowKit
set_option linter.unusedVariables false
set_option linter.unusedSimpArgs false

/-- The bytes of keys. -/
def smlB (c : UInt8) : Bool := decide (97 ≤ (c.toNat : Int)) && decide ((c.toNat : Int) ≤ 122)
def digB (c : UInt8) : Bool := decide (48 ≤ (c.toNat : Int)) && decide ((c.toNat : Int) ≤ 57)
def inkB (c : UInt8) : Bool := smlB c || digB c || c.toNat == 45 || c.toNat == 95
def keyB (l : List UInt8) : Bool := match l with
  | [] => false
  | c :: r => decide (r.length < 40) && smlB c && (c :: r).all inkB
def smalls : List UInt8 := [97, 98, 99, 100, 101, 102, 103, 104, 105, 106, 107, 108, 109, 110, 111, 112, 113, 114, 115, 116, 117, 118, 119, 120, 121, 122]
def keyBytes : List UInt8 := [97, 98, 99, 100, 101, 102, 103, 104, 105, 106, 107, 108, 109, 110, 111, 112, 113, 114, 115, 116, 117, 118, 119, 120, 121, 122, 48, 49, 50, 51, 52, 53, 54, 55, 56, 57, 45, 95]
set_option maxRecDepth 100000 in
theorem smalls_is : ∀ k, k < 256 → smalls.contains (UInt8.ofNat k) = smlB (UInt8.ofNat k) := by decide
set_option maxRecDepth 100000 in
theorem keyBytes_is : ∀ k, k < 256 → keyBytes.contains (UInt8.ofNat k) = inkB (UInt8.ofNat k) := by decide
theorem smalls_eq (c : UInt8) : smalls.contains c = smlB c := by
  have := smalls_is c.toNat c.toNat_lt
  rwa [UInt8.ofNat_toNat] at this
theorem keyBytes_eq (c : UInt8) : keyBytes.contains c = inkB c := by
  have := keyBytes_is c.toNat c.toNat_lt
  rwa [UInt8.ofNat_toNat] at this

theorem smallK_any (c : UInt8) (w : World) : Calls Tryz.prog 123 #[.int .u8 (c.toNat : Int)] w fun e w' => e = .returned (.bool (smlB c)) ∧ w = w' := by
  by_cases h1 : 97 ≤ (c.toNat : Int)
  · by_cases h2 : (c.toNat : Int) ≤ 122
    · have HD := Lib.hid (show smlB c = true by unfold smlB; rw [decide_eq_true h1, decide_eq_true h2]; rfl)
      go_enter Tryz.func123, Tryz.ntmps123
      go_wp2_with fail
      go_ret
      exact ⟨by rw [HD.out]; rfl, rfl⟩
    · have HD := Lib.hid (show smlB c = false by unfold smlB; rw [decide_eq_true h1, decide_eq_false h2]; rfl)
      go_enter Tryz.func123, Tryz.ntmps123
      go_wp2_with fail
      go_ret
      exact ⟨by rw [HD.out]; rfl, rfl⟩
  · have HD := Lib.hid (show smlB c = false by unfold smlB; rw [decide_eq_false h1]; rfl)
    go_enter Tryz.func123, Tryz.ntmps123
    go_wp2_with fail
    go_ret
    exact ⟨by rw [HD.out]; rfl, rfl⟩
theorem digitK_any (c : UInt8) (w : World) : Calls Tryz.prog 141 #[.int .u8 (c.toNat : Int)] w fun e w' => e = .returned (.bool (digB c)) ∧ w = w' := by
  by_cases h1 : 48 ≤ (c.toNat : Int)
  · by_cases h2 : (c.toNat : Int) ≤ 57
    · have HD := Lib.hid (show digB c = true by unfold digB; rw [decide_eq_true h1, decide_eq_true h2]; rfl)
      go_enter Tryz.func141, Tryz.ntmps141
      go_wp2_with fail
      go_ret
      exact ⟨by rw [HD.out]; rfl, rfl⟩
    · have HD := Lib.hid (show digB c = false by unfold digB; rw [decide_eq_true h1, decide_eq_false h2]; rfl)
      go_enter Tryz.func141, Tryz.ntmps141
      go_wp2_with fail
      go_ret
      exact ⟨by rw [HD.out]; rfl, rfl⟩
  · have HD := Lib.hid (show digB c = false by unfold digB; rw [decide_eq_false h1]; rfl)
    go_enter Tryz.func141, Tryz.ntmps141
    go_wp2_with fail
    go_ret
    exact ⟨by rw [HD.out]; rfl, rfl⟩
theorem inKey_any (c : UInt8) (w : World) : Calls Tryz.prog 124 #[.int .u8 (c.toNat : Int)] w fun e w' => e = .returned (.bool (inkB c)) ∧ w = w' := by
  have H1 := fun w => Lib.hid (smallK_any c w)
  have H2 := fun w => Lib.hid (digitK_any c w)
  obtain ⟨r, hr⟩ : ∃ r, r = inkB c := ⟨_, rfl⟩
  rw [← hr]
  unfold inkB at hr
  generalize smlB c = a at *
  generalize digB c = b at *
  cases a
  · cases b
    · by_cases h3 : c.toNat = 45
      · have hd : Hid (r = true) := Lib.hid (by rw [hr, h3]; rfl)
        have h3' : (c.toNat : Int) = 45 := by omega
        generalize (c.toNat : Int) = z at *
        clear hr h3
        subst h3'
        go_enter Tryz.func124, Tryz.ntmps124
        go_wp2_with fail
        refine (H1 _).out.mono ?_
        rintro e w1 ⟨rfl, rfl⟩
        go_wp2_with fail
        refine (H2 _).out.mono ?_
        rintro e w1 ⟨rfl, rfl⟩
        go_wp2_with fail
        go_ret
        exact ⟨by rw [hd.out]; rfl, rfl⟩
      · have hd : Hid (r = (c.toNat == 95)) := Lib.hid (by rw [hr, show (c.toNat == 45) = false by simpa using h3]; rfl)
        have h3' : ((c.toNat : Int) == 45) = false := by simpa using (show ¬ (c.toNat : Int) = 45 by omega)
        have h4 : ((c.toNat : Int) == 95) = (c.toNat == 95) := by rw [Bool.eq_iff_iff, beq_iff_eq, beq_iff_eq]; omega
        generalize (c.toNat == 95) = q at hd h4
        generalize (c.toNat : Int) = z at *
        clear hr h3
        cases q
        all_goals
          go_enter Tryz.func124, Tryz.ntmps124
          go_wp2_with fail
          refine (H1 _).out.mono ?_
          rintro e w1 ⟨rfl, rfl⟩
          go_wp2_with fail
          refine (H2 _).out.mono ?_
          rintro e w1 ⟨rfl, rfl⟩
          go_wp2_with fail
          go_ret
          exact ⟨by rw [hd.out]; rfl, rfl⟩
    · have hd : Hid (r = true) := Lib.hid (by rw [hr]; rfl)
      clear hr
      go_enter Tryz.func124, Tryz.ntmps124
      go_wp2_with fail
      refine (H1 _).out.mono ?_
      rintro e w1 ⟨rfl, rfl⟩
      go_wp2_with fail
      refine (H2 _).out.mono ?_
      rintro e w1 ⟨rfl, rfl⟩
      go_wp2_with fail
      go_ret
      exact ⟨by rw [hd.out]; rfl, rfl⟩
  · have hd : Hid (r = true) := Lib.hid (by rw [hr]; rfl)
    clear hr
    go_enter Tryz.func124, Tryz.ntmps124
    go_wp2_with fail
    refine (H1 _).out.mono ?_
    rintro e w1 ⟨rfl, rfl⟩
    go_wp2_with fail
    go_ret
    exact ⟨by rw [hd.out]; rfl, rfl⟩
end Go.Proofs.YtbheigndfhhpcaaGreatDoor
