/- Labels of names: the program's look and the reference's. -/
import Derived.Test.YtmfflcemceonhaaDoorKfNmB
import Derived.Test.YtmfflcemceonhaaDoorKfPsA
import Derived.Test.YtmfflcemceonhaaDoorKfWideA
import Derived.Test.YtmfflcemceonhaaDoorKfShelf
namespace Go.Proofs.YtmfflcemceonhaaDoor
open Go.RowKit
set_option linter.unusedVariables false
set_option linter.unusedSimpArgs false

theorem isSmall_any (c : UInt8) (w : World) : Calls Tryd.prog 61 #[.int .u8 (c.toNat : Int)] w fun e w' => e = .returned (.bool (isSml c)) ∧ w = w' := by
  by_cases h1 : 97 ≤ (c.toNat : Int)
  · by_cases h2 : (c.toNat : Int) ≤ 122
    · have HD := Lib.hid (show isSml c = true by unfold isSml; rw [decide_eq_true h1, decide_eq_true h2]; rfl)
      go_enter Tryd.func61, Tryd.ntmps61
      go_wp2_with fail
      go_ret
      exact ⟨by rw [HD.out]; rfl, rfl⟩
    · have HD := Lib.hid (show isSml c = false by unfold isSml; rw [decide_eq_true h1, decide_eq_false h2]; rfl)
      go_enter Tryd.func61, Tryd.ntmps61
      go_wp2_with fail
      go_ret
      exact ⟨by rw [HD.out]; rfl, rfl⟩
  · have HD := Lib.hid (show isSml c = false by unfold isSml; rw [decide_eq_false h1]; rfl)
    go_enter Tryd.func61, Tryd.ntmps61
    go_wp2_with fail
    go_ret
    exact ⟨by rw [HD.out]; rfl, rfl⟩

theorem isInner_any (c : UInt8) (w : World) : Calls Tryd.prog 38 #[.int .u8 (c.toNat : Int)] w fun e w' => e = .returned (.bool (isInn c)) ∧ w = w' := by
  have H1 := fun w => Lib.hid (isSmall_any c w)
  have H2 := fun w => Lib.hid (isDigit_any c w)
  unfold isInn
  generalize isSml c = a at *
  generalize isDig c = b at *
  cases a
  · go_enter Tryd.func38, Tryd.ntmps38
    go_wp2_with fail
    refine (H1 _).out.mono ?_
    rintro e w1 ⟨rfl, rfl⟩
    go_wp2_with fail
    refine (H2 _).out.mono ?_
    rintro e w1 ⟨rfl, rfl⟩
    go_wp2_with fail
    go_ret
    exact ⟨rfl, rfl⟩
  · go_enter Tryd.func38, Tryd.ntmps38
    go_wp2_with fail
    refine (H1 _).out.mono ?_
    rintro e w1 ⟨rfl, rfl⟩
    go_wp2_with fail
    go_ret
    exact ⟨rfl, rfl⟩

theorem prefix95 (l : List UInt8) (w : World) : Calls Tryd.prog 36 #[.string ⟨l.toArray⟩, .string ⟨#[95]⟩] w fun e w' => e = .returned (.string ⟨(Lib.trimPrefix l [95]).toArray⟩) ∧ w = w' := (Tryd.strings_TrimPrefix ⟨l.toArray⟩ ⟨#[95]⟩ w).mono fun e w' h => ⟨h.1, h.2.symm⟩
theorem trimPrefix_le (l p : List UInt8) : (Lib.trimPrefix l p).length ≤ l.length := by
  unfold Lib.trimPrefix
  split
  · rw [List.length_drop]; omega
  · exact Nat.le_refl _
theorem trim45 (l : List UInt8) (w : World) (hl : l.length ≤ 100000) : Calls Tryd.prog 37 #[.string ⟨l.toArray⟩, .string ⟨#[45]⟩] w fun e w' => e = .returned (.string ⟨(Lib.trimB l 45).toArray⟩) ∧ Below w.heap.size w w' :=
  (Tryd.strings_Trim_one ⟨l.toArray⟩ 45 (by decide) w (by rw [Lib.size_eq]; exact Nat.le_trans hl (by decide))).mono fun e w' h => ⟨h.1, by rcases h.2 with rfl | rfl; exact Below.refl _ _; exact (Below.refl _ _).drew⟩

set_option maxHeartbeats 2000000 in
set_option maxRecDepth 100000 in
theorem isLabel_any (l : List UInt8) (w : World) (hl : l.length ≤ 100000) : Calls Tryd.prog 20 #[.string ⟨l.toArray⟩] w (GivesV (.bool (labB l)) w) := by
  have HP := Lib.hid (prefix95 l w)
  have hle := trimPrefix_le l [95]
  unfold labB
  generalize Lib.trimPrefix l [95] = r at *
  have HT := Lib.hid (trim45 r w (by omega))
  have hr : r.length ≤ 100000 := by omega
  clear hle
  by_cases h0 : r = []
  · subst h0
    have hV := Lib.hid (show (decide (l.length ≤ 63) && labR []) = false by rw [show labR [] = false from rfl, Bool.and_false])
    rw [hV.out]
    clear HT hr
    go_enter Tryd.func20, Tryd.ntmps20
    go_wp2_with fail
    refine HP.out.mono ?_
    rintro e w1 ⟨rfl, rfl⟩
    go_wp2_with fail
    go_ret
    exact ⟨rfl, Below.refl _ _⟩
  · have he : r.isEmpty = false := by cases r with
      | nil => exact absurd rfl h0
      | cons _ _ => rfl
    by_cases h63 : 63 < l.length
    · have hV := Lib.hid (show (decide (l.length ≤ 63) && labR r) = false by rw [decide_eq_false (by omega), Bool.false_and])
      rw [hV.out]
      have h63' : (63 : Int) < l.length := by omega
      clear HT hr h0 hV h63
      go_enter Tryd.func20, Tryd.ntmps20
      go_wp2_with fail
      refine HP.out.mono ?_
      rintro e w1 ⟨rfl, rfl⟩
      go_wp2_with fail
      go_ret
      exact ⟨rfl, Below.refl _ _⟩
    · have h63' : ¬ (63 : Int) < l.length := by omega
      have hV := Lib.hid (show (decide (l.length ≤ 63) && labR r) = ((Lib.trimB r 45 == r) && r.all (fun c => isInn c || c == 45)) by rw [decide_eq_true (by omega), Bool.true_and]; unfold labR; rw [he]; rfl)
      rw [hV.out]
      clear hV h0 h63
      generalize Lib.trimB r 45 = t at *
      by_cases ht : t = r
      · have hb : (t == r) = true := by rw [beq_iff_eq]; exact ht
        rw [hb, Bool.true_and]
        go_enter Tryd.func20, Tryd.ntmps20
        go_wp2_with fail
        refine HP.out.mono ?_
        rintro e w1 ⟨rfl, rfl⟩
        go_wp2_with fail
        refine HT.out.mono ?_
        rintro e w1 ⟨rfl, hb1⟩
        clear HT HP
        go_wp2_with fail
        go_loopw [22] (fun vi wr => ∃ k : Nat, k ≤ r.length ∧ vi = .int .i64 k ∧ Hid ((r.take k).all (fun c => isInn c || c == 45) = true) ∧ Below w.heap.size w wr) (fun vi _ => r.length - (intOf vi).toNat)
        case atStart => exact ⟨0, Nat.zero_le _, rfl, Lib.hid rfl, hb1⟩
        case round =>
          obtain ⟨k, hk, rfl, hI, hbw⟩ := hrel
          by_cases hlt : k < r.length
          · have hk' : k < (⟨r.toArray⟩ : ByteArray).size := by rw [Lib.size_eq]; exact hlt
            obtain ⟨c, hc⟩ : ∃ c, c = (⟨r.toArray⟩ : ByteArray)[k]'hk' := ⟨_, rfl⟩
            have hcr : Hid (r[k]? = some c) := Lib.hid (by rw [hc, List.getElem?_eq_getElem hlt]; rfl)
            have HC := fun W => Lib.hid (isInner_any c W)
            replace hc := hc.symm
            have hck := Lib.hid hc
            clear hck
            have htk := Lib.hid (show (r.take (k + 1)).all (fun c => isInn c || c == 45) = ((r.take k).all (fun c => isInn c || c == 45) && (isInn c || c == 45)) by
              rw [List.take_add_one, hcr.out, List.all_append]; simp)
            have hall := Lib.hid (fun (h : (isInn c || c == 45) = false) => (show r.all (fun c => isInn c || c == 45) = false by
              rw [Bool.eq_false_iff]
              intro g
              have := List.all_eq_true.1 g c (List.mem_of_getElem? hcr.out)
              rw [h] at this; cases this))
            have h45 := Lib.hid (show (c == 45) = decide ((c.toNat : Int) = 45) by
              rw [Bool.eq_iff_iff, beq_iff_eq, decide_eq_true_iff]
              constructor
              · rintro rfl; rfl
              · intro h; exact UInt8.toNat_inj.1 (by show c.toNat = 45; omega))
            have hci : isInn c = true ∨ isInn c = false := by cases isInn c <;> simp
            rcases hci with hi | hi
            · have hok := Lib.hid (show (isInn c || c == 45) = true by rw [hi, Bool.true_or])
              rw [hi] at HC
              clear hi h45 hall
              go_wp2_with fail
              refine (HC _).out.mono ?_
              rintro e w2 ⟨rfl, rfl⟩
              go_wp2_with fail
              go_roundw
              case rel => exact ⟨k + 1, by omega, by go_num, Lib.hid (by rw [htk.out, hI.out, hok.out]; rfl), hbw⟩
              case measure => simp [intOf]; omega
            · rw [hi] at HC
              by_cases h5 : (c.toNat : Int) = 45
              · have hok := Lib.hid (show (isInn c || c == 45) = true by rw [h45.out, decide_eq_true h5, Bool.or_true])
                replace HC := fun W => (show Hid (Calls Tryd.prog 38 #[.int .u8 45] W fun e w' => e = .returned (.bool false) ∧ W = w') from by have := (HC W).out; rw [h5] at this; exact Lib.hid this)
                clear hi h45 hall
                go_wp2_with fail
                refine (HC _).out.mono ?_
                rintro e w2 ⟨rfl, rfl⟩
                go_wp2_with fail
                go_roundw
                case rel => exact ⟨k + 1, by omega, by go_num, Lib.hid (by rw [htk.out, hI.out, hok.out]; rfl), hbw⟩
                case measure => simp [intOf]; omega
              · have hok := Lib.hid (hall.out (by rw [hi, h45.out, decide_eq_false h5]; rfl))
                clear hi h45 hall htk
                go_wp2_with fail
                refine (HC _).out.mono ?_
                rintro e w2 ⟨rfl, rfl⟩
                go_wp2_with fail
                go_ret
                exact ⟨by rw [hok.out]; rfl, hbw⟩
          · have hkr : k = r.length := by omega
            have hfin := Lib.hid (show r.all (fun c => isInn c || c == 45) = true by have := hI.out; rwa [hkr, List.take_length] at this)
            go_wp2_with fail
            go_ret
            exact ⟨by rw [hfin.out]; rfl, hbw⟩
      · have hb : (t == r) = false := by rw [beq_eq_false_iff_ne]; exact ht
        rw [hb, Bool.false_and]
        have hn : ¬ t = r := ht
        clear ht
        go_enter Tryd.func20, Tryd.ntmps20
        go_wp2_with fail
        refine HP.out.mono ?_
        rintro e w1 ⟨rfl, rfl⟩
        go_wp2_with fail
        refine HT.out.mono ?_
        rintro e w1 ⟨rfl, hb1⟩
        clear HT HP
        go_wp2_with fail
        go_ret
        exact ⟨rfl, hb1⟩

set_option maxHeartbeats 2000000 in
set_option maxRecDepth 100000 in
theorem labelForm_any (l : List UInt8) (w : World) (hl : l.length ≤ 100000) : Calls Tryd.prog 22 #[.string ⟨l.toArray⟩] w (GivesV (.bool (labB l)) w) := by
  have HP := Lib.hid (prefix95 l w)
  have hle := trimPrefix_le l [95]
  unfold labB
  rw [labR_ref]
  generalize Lib.trimPrefix l [95] = r at *
  have hr : r.length ≤ 100000 := by omega
  have HT : Hid (Calls Tryd.prog 37 #[.string ⟨r.toArray⟩, .string ⟨labBytes.toArray⟩] w fun e w' => e = .returned (.string ⟨(Lib.trimS r labBytes).toArray⟩) ∧ Below w.heap.size w w') := Lib.hid (
    Any.strings_Trim_laid Tryd.lays160 (by kernel_rfl) ⟨r.toArray⟩ ⟨labBytes.toArray⟩ w (by rw [Lib.size_eq]; exact Nat.le_trans hr (by decide)) (by decide) (ascii_of_all (by decide)))
  generalize Lib.trimS r labBytes = t at *
  unfold labBytes at HT
  clear hle
  by_cases h63 : 63 < l.length
  · have hV := Lib.hid (show (decide (l.length ≤ 63) && (!r.isEmpty && t.isEmpty && decide (r.head? ≠ some 45) && decide (r.getLast? ≠ some 45))) = false by rw [decide_eq_false (by omega), Bool.false_and])
    rw [hV.out]
    have h63' : (63 : Int) < l.length := by omega
    clear HT hr hV h63
    go_enter Tryd.func22, Tryd.ntmps22
    go_wp2_with fail
    go_ret
    exact ⟨rfl, Below.refl _ _⟩
  · have h63' : ¬ (63 : Int) < l.length := by omega
    rw [decide_eq_true (show l.length ≤ 63 by omega), Bool.true_and]
    clear h63
    by_cases h0 : r = []
    · subst h0
      clear HT hr
      go_enter Tryd.func22, Tryd.ntmps22
      go_wp2_with fail
      refine HP.out.mono ?_
      rintro e w1 ⟨rfl, rfl⟩
      go_wp2_with fail
      go_ret
      exact ⟨rfl, Below.refl _ _⟩
    · have he : r.isEmpty = false := by cases r with
        | nil => exact absurd rfl h0
        | cons _ _ => rfl
      have hpos : 0 < r.length := List.length_pos_iff.2 h0
      rw [he, Bool.not_false, Bool.true_and]
      clear h0
      by_cases ht : t = []
      · subst ht
        have h0' : 0 < (⟨r.toArray⟩ : ByteArray).size := by rw [Lib.size_eq]; exact hpos
        obtain ⟨c0, hc0⟩ : ∃ c, (⟨r.toArray⟩ : ByteArray)[0]'h0' = c := ⟨_, rfl⟩
        obtain ⟨m, hm⟩ : ∃ m, m = r.length - 1 := ⟨_, rfl⟩
        have hm' : m < (⟨r.toArray⟩ : ByteArray).size := by rw [Lib.size_eq]; show m < r.length; omega
        obtain ⟨c1, hc1⟩ : ∃ c, (⟨r.toArray⟩ : ByteArray)[m]'hm' = c := ⟨_, rfl⟩
        have hml : (r.length : Int) - 1 = m := by omega
        have hmr : m < r.length := by omega
        have hd0 := Lib.hid (show r.head? = some c0 by rw [← hc0, List.head?_eq_getElem?, List.getElem?_eq_getElem hpos]; rfl)
        have hd1 := Lib.hid (show r.getLast? = some c1 by rw [← hc1, List.getLast?_eq_getElem?, ← hm, List.getElem?_eq_getElem hmr]; rfl)
        have b45 : ∀ c : UInt8, decide (some c ≠ some (45 : UInt8)) = !decide ((c.toNat : Int) = 45) := fun c => by
          rw [Bool.eq_iff_iff, decide_eq_true_iff, Bool.not_eq_true', decide_eq_false_iff_not]
          constructor
          · intro h e; exact h (congrArg some (UInt8.toNat_inj.1 (by show c.toNat = 45; omega)))
          · rintro h e; rw [Option.some.inj e] at h; exact h rfl
        have hV := Lib.hid (show (([] : List UInt8).isEmpty && decide (r.head? ≠ some 45) && decide (r.getLast? ≠ some 45)) = (!decide ((c0.toNat : Int) = 45) && !decide ((c1.toNat : Int) = 45)) by rw [hd0.out, hd1.out, b45, b45]; rfl)
        rw [hV.out]
        have hmh : m + 1 = r.length := by omega
        replace hmh := Lib.hid hmh
        clear hd0 hd1 b45 hV hm hmr
        by_cases h0 : (c0.toNat : Int) = 45
        · rw [decide_eq_true h0]
          go_enter Tryd.func22, Tryd.ntmps22
          go_wp2_with fail
          refine HP.out.mono ?_
          rintro e w1 ⟨rfl, rfl⟩
          go_wp2_with fail
          refine HT.out.mono ?_
          rintro e w1 ⟨rfl, hb1⟩
          clear HT HP
          go_wp2_with fail
          go_ret
          exact ⟨rfl, hb1⟩
        · rw [decide_eq_false h0]
          by_cases h1 : (c1.toNat : Int) = 45
          · rw [decide_eq_true h1]
            go_enter Tryd.func22, Tryd.ntmps22
            go_wp2_with fail
            refine HP.out.mono ?_
            rintro e w1 ⟨rfl, rfl⟩
            go_wp2_with fail
            refine HT.out.mono ?_
            rintro e w1 ⟨rfl, hb1⟩
            clear HT HP
            go_wp2_with fail
            go_ret
            exact ⟨rfl, hb1⟩
          · rw [decide_eq_false h1]
            have n0 := Lib.hid (show ((c0.toNat : Int) != 45) = true by simp [h0])
            have n1 := Lib.hid (show ((c1.toNat : Int) != 45) = true by simp [h1])
            go_enter Tryd.func22, Tryd.ntmps22
            go_wp2_with fail
            refine HP.out.mono ?_
            rintro e w1 ⟨rfl, rfl⟩
            go_wp2_with fail
            refine HT.out.mono ?_
            rintro e w1 ⟨rfl, hb1⟩
            clear HT HP
            go_wp2_with fail
            go_ret
            exact ⟨by show Ending.returned (.bool ((c0.toNat : Int) != 45 && (c1.toNat : Int) != 45)) = _; rw [n0.out, n1.out]; rfl, hb1⟩
      · have hte : t.isEmpty = false := by cases t with
          | nil => exact absurd rfl ht
          | cons _ _ => rfl
        rw [hte, Bool.false_and, Bool.false_and]
        clear ht
        go_enter Tryd.func22, Tryd.ntmps22
        go_wp2_with fail
        refine HP.out.mono ?_
        rintro e w1 ⟨rfl, rfl⟩
        go_wp2_with fail
        refine HT.out.mono ?_
        rintro e w1 ⟨rfl, hb1⟩
        clear HT HP
        go_wp2_with fail
        go_ret
        exact ⟨rfl, hb1⟩
end Go.Proofs.YtmfflcemceonhaaDoor
