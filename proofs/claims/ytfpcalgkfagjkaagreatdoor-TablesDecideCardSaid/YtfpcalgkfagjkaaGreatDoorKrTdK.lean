/- Tables: how the reference reads a key. -/
import Derived.Test.YtfpcalgkfagjkaaGreatDoorKrStG
import Derived.Lib.Small
import Derived.Lib.Bytealg
import Derived.Test.YtfpcalgkfagjkaaGreatDoorKrShelf
import Derived.Shelf.Strings.SlTrimAscii
import Derived.Test.YtfpcalgkfagjkaaGreatDoorKrMdB
import Derived.Test.YtfpcalgkfagjkaaGreatDoorKrTxtJ
set_option linter.unusedVariables false
set_option linter.unusedSimpArgs false
set_option maxRecDepth 100000
namespace Go.Proofs.YtfpcalgkfagjkaaGreatDoor
open Go.RowKit

structure Fl where
  p : Int
  f : Ad
  t : Ad
  fp : Int
  tp : Int
structure Rp where
  node : List UInt8
  hour : Int
  out : Bool
  fl : Fl
  pk : Int
  by_ : Int
def i60 (z : Int) : Prop := -1152921504606846976 ≤ z ∧ z ≤ 1152921504606846976
def Fl.U (x : Fl) : Prop := x.f.U ∧ x.t.U ∧ i60 x.p ∧ i60 x.fp ∧ i60 x.tp
def Rp.U (r : Rp) : Prop := r.fl.U ∧ i60 r.hour ∧ r.node.length ≤ 1000
section
variable (ρ : Operand → Value) (dst : Option Tmp) (x y : Operand) (ty : TypeId) (pos : String) (after : Array Edge) (guard : Option (Nat × Bool))
end

theorem intCmp_d (x y : Int) (w : World) : Calls Tryz.prog 76 #[.int .i64 x, .int .i64 y] w fun e w' => e = .returned (.int .i64 (Lib.compareInt x y)) ∧ w' = w := Tryz.cmp_Compare_int x y w


def smlB (c : UInt8) : Bool := decide (97 ≤ (c.toNat : Int)) && decide ((c.toNat : Int) ≤ 122)
def digB (c : UInt8) : Bool := decide (48 ≤ (c.toNat : Int)) && decide ((c.toNat : Int) ≤ 57)
def inkB (c : UInt8) : Bool := smlB c || digB c || c.toNat == 45 || c.toNat == 95
def keyB (l : List UInt8) : Bool := match l with
  | [] => false
  | c :: r => decide (r.length < 40) && smlB c && (c :: r).all inkB
def smalls : List UInt8 := [97, 98, 99, 100, 101, 102, 103, 104, 105, 106, 107, 108, 109, 110, 111, 112, 113, 114, 115, 116, 117, 118, 119, 120, 121, 122]
def keyBytes : List UInt8 := [97, 98, 99, 100, 101, 102, 103, 104, 105, 106, 107, 108, 109, 110, 111, 112, 113, 114, 115, 116, 117, 118, 119, 120, 121, 122, 48, 49, 50, 51, 52, 53, 54, 55, 56, 57, 45, 95]
theorem smalls_is : ∀ k, k < 256 → smalls.contains (UInt8.ofNat k) = smlB (UInt8.ofNat k) := by decide
theorem keyBytes_is : ∀ k, k < 256 → keyBytes.contains (UInt8.ofNat k) = inkB (UInt8.ofNat k) := by decide
theorem smalls_eq (c : UInt8) : smalls.contains c = smlB c := by
  have := smalls_is c.toNat c.toNat_lt
  rwa [UInt8.ofNat_toNat] at this
theorem keyBytes_eq (c : UInt8) : keyBytes.contains c = inkB c := by
  have := keyBytes_is c.toNat c.toNat_lt
  rwa [UInt8.ofNat_toNat] at this

theorem smallK_any (c : UInt8) (w : World) : Calls Tryz.prog 73 #[.int .u8 (c.toNat : Int)] w fun e w' => e = .returned (.bool (smlB c)) ∧ w = w' := by
  by_cases h1 : 97 ≤ (c.toNat : Int)
  · by_cases h2 : (c.toNat : Int) ≤ 122
    · have HD := Lib.hid (show smlB c = true by unfold smlB; rw [decide_eq_true h1, decide_eq_true h2]; rfl)
      go_enter Tryz.func73, Tryz.ntmps73
      go_wp2_with fail
      go_ret
      exact ⟨by rw [HD.out]; rfl, rfl⟩
    · have HD := Lib.hid (show smlB c = false by unfold smlB; rw [decide_eq_true h1, decide_eq_false h2]; rfl)
      go_enter Tryz.func73, Tryz.ntmps73
      go_wp2_with fail
      go_ret
      exact ⟨by rw [HD.out]; rfl, rfl⟩
  · have HD := Lib.hid (show smlB c = false by unfold smlB; rw [decide_eq_false h1]; rfl)
    go_enter Tryz.func73, Tryz.ntmps73
    go_wp2_with fail
    go_ret
    exact ⟨by rw [HD.out]; rfl, rfl⟩
theorem digitK_any (c : UInt8) (w : World) : Calls Tryz.prog 94 #[.int .u8 (c.toNat : Int)] w fun e w' => e = .returned (.bool (digB c)) ∧ w = w' := by
  by_cases h1 : 48 ≤ (c.toNat : Int)
  · by_cases h2 : (c.toNat : Int) ≤ 57
    · have HD := Lib.hid (show digB c = true by unfold digB; rw [decide_eq_true h1, decide_eq_true h2]; rfl)
      go_enter Tryz.func94, Tryz.ntmps94
      go_wp2_with fail
      go_ret
      exact ⟨by rw [HD.out]; rfl, rfl⟩
    · have HD := Lib.hid (show digB c = false by unfold digB; rw [decide_eq_true h1, decide_eq_false h2]; rfl)
      go_enter Tryz.func94, Tryz.ntmps94
      go_wp2_with fail
      go_ret
      exact ⟨by rw [HD.out]; rfl, rfl⟩
  · have HD := Lib.hid (show digB c = false by unfold digB; rw [decide_eq_false h1]; rfl)
    go_enter Tryz.func94, Tryz.ntmps94
    go_wp2_with fail
    go_ret
    exact ⟨by rw [HD.out]; rfl, rfl⟩
theorem inKey_any (c : UInt8) (w : World) : Calls Tryz.prog 74 #[.int .u8 (c.toNat : Int)] w fun e w' => e = .returned (.bool (inkB c)) ∧ w = w' := by
  have H1 := fun w => Lib.hid (smallK_any c w)
  have H2 := fun w => Lib.hid (digitK_any c w)
  obtain ⟨r, hr⟩ : ∃ r, r = inkB c := ⟨_, rfl⟩
  rw [← hr]
  unfold inkB at hr
  generalize smlB c = a at *
  generalize digB c = b at *
  cases a
  · cases b
    · by_cases h3 : c.toNat = 45
      · have hd : Hid (r = true) := Lib.hid (by rw [hr, h3]; rfl)
        have h3' : (c.toNat : Int) = 45 := by omega
        generalize (c.toNat : Int) = z at *
        clear hr h3
        subst h3'
        go_enter Tryz.func74, Tryz.ntmps74
        go_wp2_with fail
        refine (H1 _).out.mono ?_
        rintro e w1 ⟨rfl, rfl⟩
        go_wp2_with fail
        refine (H2 _).out.mono ?_
        rintro e w1 ⟨rfl, rfl⟩
        go_wp2_with fail
        go_ret
        exact ⟨by rw [hd.out]; rfl, rfl⟩
      · have hd : Hid (r = (c.toNat == 95)) := Lib.hid (by rw [hr, show (c.toNat == 45) = false by simpa using h3]; rfl)
        have h3' : ((c.toNat : Int) == 45) = false := by simpa using (show ¬ (c.toNat : Int) = 45 by omega)
        have h4 : ((c.toNat : Int) == 95) = (c.toNat == 95) := by rw [Bool.eq_iff_iff, beq_iff_eq, beq_iff_eq]; omega
        generalize (c.toNat == 95) = q at hd h4
        generalize (c.toNat : Int) = z at *
        clear hr h3
        cases q
        all_goals
          go_enter Tryz.func74, Tryz.ntmps74
          go_wp2_with fail
          refine (H1 _).out.mono ?_
          rintro e w1 ⟨rfl, rfl⟩
          go_wp2_with fail
          refine (H2 _).out.mono ?_
          rintro e w1 ⟨rfl, rfl⟩
          go_wp2_with fail
          go_ret
          exact ⟨by rw [hd.out]; rfl, rfl⟩
    · have hd : Hid (r = true) := Lib.hid (by rw [hr]; rfl)
      clear hr
      go_enter Tryz.func74, Tryz.ntmps74
      go_wp2_with fail
      refine (H1 _).out.mono ?_
      rintro e w1 ⟨rfl, rfl⟩
      go_wp2_with fail
      refine (H2 _).out.mono ?_
      rintro e w1 ⟨rfl, rfl⟩
      go_wp2_with fail
      go_ret
      exact ⟨by rw [hd.out]; rfl, rfl⟩
  · have hd : Hid (r = true) := Lib.hid (by rw [hr]; rfl)
    clear hr
    go_enter Tryz.func74, Tryz.ntmps74
    go_wp2_with fail
    refine (H1 _).out.mono ?_
    rintro e w1 ⟨rfl, rfl⟩
    go_wp2_with fail
    go_ret
    exact ⟨by rw [hd.out]; rfl, rfl⟩

set_option maxHeartbeats 2000000 in
theorem isKey_any (l : List UInt8) (w : World) : Calls Tryz.prog 38 #[.string ⟨l.toArray⟩] w fun e w' => e = .returned (.bool (keyB l)) ∧ w' = w := by
  cases l with
  | nil =>
    have hV := Lib.hid (show keyB [] = false from rfl)
    rw [hV.out]
    go_enter Tryz.func38, Tryz.ntmps38
    go_wp2_with fail
    go_ret
    exact ⟨rfl, rfl⟩
  | cons c r =>
    obtain ⟨R, hR⟩ : ∃ R, R = keyB (c :: r) := ⟨_, rfl⟩
    rw [← hR]
    have hR' : R = (decide (r.length < 40) && smlB c && (c :: r).all inkB) := hR
    have hlen : (c :: r).length = r.length + 1 := rfl
    have hemp : (c :: r).isEmpty = false := rfl
    have hk0 : 0 < (⟨(c :: r).toArray⟩ : ByteArray).size := by rw [Lib.size_eq]; exact Nat.succ_pos _
    have hc0 : (⟨(c :: r).toArray⟩ : ByteArray)[0]'hk0 = c := rfl
    generalize hl : c :: r = l at *
    have HS := fun W => Lib.hid (smallK_any c W)
    clear hR
    by_cases h40 : 40 ≤ r.length
    · have hV := Lib.hid (show R = false by rw [hR', decide_eq_false (by omega), Bool.false_and, Bool.false_and])
      have h40' : (40 : Int) < l.length := by omega
      clear hR' HS h40 hl
      go_enter Tryz.func38, Tryz.ntmps38
      go_wp2_with fail
      go_ret
      exact ⟨by rw [hV.out]; rfl, rfl⟩
    · rw [decide_eq_true (show r.length < 40 by omega), Bool.true_and] at hR'
      have h40' : ¬ (40 : Int) < l.length := by omega
      have hpos : 0 < l.length := by omega
      cases hs : smlB c
      · rw [hs, Bool.false_and] at hR'
        rw [hs] at HS
        replace hR' := Lib.hid hR'
        clear hs hl h40 hlen
        go_enter Tryz.func38, Tryz.ntmps38
        go_wp2_with fail
        refine (HS _).out.mono ?_
        rintro e w1 ⟨rfl, rfl⟩
        go_wp2_with fail
        go_ret
        exact ⟨by rw [hR'.out]; rfl, rfl⟩
      · rw [hs, Bool.true_and] at hR'
        rw [hs] at HS
        replace hR' := Lib.hid hR'
        clear hs hl h40 hlen
        go_enter Tryz.func38, Tryz.ntmps38
        go_wp2_with fail
        refine (HS _).out.mono ?_
        rintro e w1 ⟨rfl, rfl⟩
        clear HS hc0
        go_wp2_with fail
        go_loopw [19] (fun vi wr => ∃ k : Nat, k ≤ l.length ∧ vi = .int .i64 k ∧ Hid ((l.take k).all inkB = true) ∧ wr = w) (fun vi _ => l.length - (intOf vi).toNat)
        case atStart => exact ⟨0, Nat.zero_le _, rfl, Lib.hid rfl, rfl⟩
        case round =>
          obtain ⟨k, hk, rfl, hI, rfl⟩ := hrel
          by_cases hlt : k < l.length
          · have hk' : k < (⟨l.toArray⟩ : ByteArray).size := by rw [Lib.size_eq]; exact hlt
            obtain ⟨b, hb⟩ : ∃ b, b = (⟨l.toArray⟩ : ByteArray)[k]'hk' := ⟨_, rfl⟩
            have hbl : l[k]? = some b := by rw [hb, List.getElem?_eq_getElem hlt]; rfl
            have HC := fun W => Lib.hid (inKey_any b W)
            replace hb := hb.symm
            have htk := Lib.hid (all_takeB (p := inkB) hbl hI.out)
            have hbad := Lib.hid (all_badB (p := inkB) hbl)
            clear hbl
            cases hq : inkB b
            · have hY := Lib.hid (hbad.out hq)
              rw [hq] at HC
              clear hq htk hbad
              go_wp2_with fail
              refine (HC _).out.mono ?_
              rintro e w2 ⟨rfl, rfl⟩
              go_wp2_with fail
              go_ret
              exact ⟨by rw [hR'.out, hY.out]; rfl, rfl⟩
            · have hY := Lib.hid (htk.out hq)
              rw [hq] at HC
              clear hq htk hbad
              go_wp2_with fail
              refine (HC _).out.mono ?_
              rintro e w2 ⟨rfl, rfl⟩
              go_wp2_with fail
              go_roundw
              case rel => exact ⟨k + 1, by omega, by go_num, hY, trivial⟩
              case measure => simp [intOf]; omega
          · have hY := Lib.hid (show l.all inkB = true by have := hI.out; rwa [List.take_of_length_le (by omega)] at this)
            go_wp2_with fail
            go_ret
            exact ⟨by rw [hR'.out, hY.out]; rfl, rfl⟩
theorem dropWhileR_nil {α : Type} (p : α → Bool) : ∀ l : List α, l.dropWhile p = [] ↔ l.all p = true
  | [] => by simp
  | a :: r => by
    rw [List.dropWhile_cons, List.all_cons]
    cases h : p a
    · simp
    · simpa using dropWhileR_nil p r
theorem dropWhileR_head {α : Type} (p : α → Bool) : ∀ (l : List α) (a : α) (r : List α), l.dropWhile p = a :: r → p a = false
  | [], _, _, h => by cases h
  | b :: l, a, r, h => by
    rw [List.dropWhile_cons] at h
    split at h
    · exact dropWhileR_head p l a r h
    · rename_i hb; cases h; simpa using hb
theorem trimSR_nil (l cs : List UInt8) : Lib.trimS l cs = [] ↔ l.all (cs.contains ·) = true := by
  unfold Lib.trimS Lib.trimLeftS
  rw [dropWhileR_nil]
  unfold Lib.trimRightS
  rw [List.all_reverse]
  constructor
  · intro h
    cases hd : l.reverse.dropWhile (cs.contains ·) with
    | nil => rw [dropWhileR_nil, List.all_reverse] at hd; exact hd
    | cons a r =>
      have h1 := dropWhileR_head _ _ _ _ hd
      rw [hd, List.all_cons, h1] at h
      cases h
  · intro h
    have : l.reverse.dropWhile (cs.contains ·) = [] := by rw [dropWhileR_nil, List.all_reverse]; exact h
    rw [this]; rfl
theorem trimR_empty (l cs : List UInt8) : (Lib.trimS l cs).isEmpty = l.all (cs.contains ·) := by
  have h := trimSR_nil l cs
  cases hb : l.all (cs.contains ·)
  · rw [hb] at h
    cases ht : Lib.trimS l cs with
    | nil => cases h.1 ht
    | cons _ _ => rfl
  · rw [h.2 hb]; rfl
theorem onlyR_any (r : Bool) (l cs : List UInt8) (w : World) (hl : l.length ≤ 100000) (hc : cs.length ≤ 100) (ha : cs.all (fun b => decide (b.toNat < 128)) = true) (hr : r = l.all (cs.contains ·)) :
    Calls Tryz.prog 70 #[.string ⟨l.toArray⟩, .string ⟨cs.toArray⟩] w (GivesV (.bool r) w) := by
  have HT : Hid (Calls Tryz.prog 93 #[.string ⟨l.toArray⟩, .string ⟨cs.toArray⟩] w fun e w' => e = .returned (.string ⟨(Lib.trimS l cs).toArray⟩) ∧ Below w.heap.size w w') := Lib.hid (
    Any.strings_Trim_laid Tryz.lays160 (by kernel_rfl) ⟨l.toArray⟩ ⟨cs.toArray⟩ w (by rw [Lib.size_eq]; exact Nat.le_trans hl (by decide)) (by rw [Lib.size_eq]; exact Nat.lt_of_le_of_lt hc (by decide)) (ascii_of_all ha))
  rw [← trimR_empty] at hr
  generalize Lib.trimS l cs = t at *
  replace hr := Lib.hid hr.symm
  clear ha
  have hr2 : t.isEmpty = r := hr.out
  cases r
  all_goals
    go_enter Tryz.func70, Tryz.ntmps70
    go_wp2_with fail
    refine HT.out.mono ?_
    rintro e w1 ⟨rfl, hb⟩
    go_wp2_with fail
    go_ret
    exact ⟨rfl, hb⟩

theorem keyB_consT (c : UInt8) (r : List UInt8) : keyB (c :: r) = (decide (r.length < 40) && smlB c && (c :: r).all inkB) := rfl
theorem first_byteT (c : UInt8) (r : List UInt8) : (⟨(c :: r).toArray⟩ : ByteArray).extract 0 1 = ⟨[c].toArray⟩ := by
  apply ByteArray.ext
  simp [ByteArray.data_extract]
theorem all_smallsT (l : List UInt8) : l.all (smalls.contains ·) = l.all smlB := by
  congr 1; funext c; exact smalls_eq c
theorem all_keyBytesT (l : List UInt8) : l.all (keyBytes.contains ·) = l.all inkB := by
  congr 1; funext c; exact keyBytes_eq c

set_option maxHeartbeats 2000000 in
theorem refKeyT_any (l : List UInt8) (w : World) (hl : l.length ≤ 1000) : Calls Tryz.prog 35 #[.string ⟨l.toArray⟩] w (GivesV (.bool (keyB l)) w) := by
  have HI := Lib.hid (fun w' => in_any (l.length : Int) 1 40 w')
  by_cases h1 : inB (l.length : Int) 1 40 = true
  · rw [h1] at HI
    obtain ⟨c, r, rfl⟩ : ∃ c r, l = c :: r := by
      cases l with
      | nil => exact absurd h1 (by decide)
      | cons c r => exact ⟨c, r, rfl⟩
    have hr : r.length < 40 := by
      simp [inB] at h1; omega
    have H1 : Hid (∀ w', Calls Tryz.prog 70 #[.string ((⟨(c :: r).toArray⟩ : ByteArray).extract 0 1), .string ⟨#[97, 98, 99, 100, 101, 102, 103, 104, 105, 106, 107, 108, 109, 110, 111, 112, 113, 114, 115, 116, 117, 118, 119, 120, 121, 122]⟩] w' (GivesV (.bool (smlB c)) w')) := Lib.hid (fun w' => by
      rw [first_byteT c r]
      exact onlyR_any (smlB c) [c] smalls w' (by simp) (by decide) (by decide) (by rw [all_smallsT]; simp))
    have hk : keyB (c :: r) = (smlB c && (c :: r).all inkB) := by rw [keyB_consT, decide_eq_true hr, Bool.true_and]
    rw [hk]
    have H2 : Hid (∀ w', Calls Tryz.prog 70 #[.string ⟨(c :: r).toArray⟩, .string ⟨#[97, 98, 99, 100, 101, 102, 103, 104, 105, 106, 107, 108, 109, 110, 111, 112, 113, 114, 115, 116, 117, 118, 119, 120, 121, 122, 48, 49, 50, 51, 52, 53, 54, 55, 56, 57, 45, 95]⟩] w' (GivesV (.bool ((c :: r).all inkB)) w')) := Lib.hid (fun w' =>
      onlyR_any ((c :: r).all inkB) (c :: r) keyBytes w' (by simp; omega) (by decide) (by decide) (by rw [all_keyBytesT]))
    generalize (c :: r).all inkB = q2 at H2
    generalize smlB c = q1 at H1
    clear hk h1
    cases q1
    · clear H2
      go_enter Tryz.func35, Tryz.ntmps35
      go_wp2_with fail
      refine (HI.out _).mono ?_
      rintro e w1 ⟨rfl, rfl⟩
      go_wp2_with fail
      refine (H1.out _).mono ?_
      rintro e w1 ⟨rfl, hb⟩
      go_wp2_with fail
      go_ret
      exact ⟨rfl, hb⟩
    · cases q2
      all_goals
        go_enter Tryz.func35, Tryz.ntmps35
        go_wp2_with fail
        refine (HI.out _).mono ?_
        rintro e w1 ⟨rfl, rfl⟩
        go_wp2_with fail
        refine (H1.out _).mono ?_
        rintro e w1 ⟨rfl, hb⟩
        go_wp2_with fail
        refine (H2.out _).mono ?_
        rintro e w2 ⟨rfl, hb2⟩
        go_wp2_with fail
        go_ret
        exact ⟨rfl, hb.trans (hb2.mono hb.size)⟩
  · have h1' : inB (l.length : Int) 1 40 = false := by simpa using h1
    rw [h1'] at HI
    have hk : keyB l = false := by
      cases l with
      | nil => rfl
      | cons c r =>
        rw [keyB_consT, decide_eq_false, Bool.false_and, Bool.false_and]
        simp [inB] at h1'; omega
    rw [hk]
    clear hk h1 h1'
    go_enter Tryz.func35, Tryz.ntmps35
    go_wp2_with fail
    refine (HI.out _).mono ?_
    rintro e w1 ⟨rfl, rfl⟩
    go_wp2_with fail
    go_ret
    exact ⟨rfl, Below.refl _ _⟩
end Go.Proofs.YtfpcalgkfagjkaaGreatDoor
