/- Under and Compare, program and reference; names out of a stream. -/
import Derived.Test.YtmfflcemceonhaaDoorKfDcC
namespace Go.Proofs.YtmfflcemceonhaaDoor
open Go.RowKit
set_option linter.unusedVariables false
set_option linter.unusedSimpArgs false

def faultD (a b : List UInt8) : Int := firstE [domF a, domF b]
/-- What Under hands back. -/
def underV (f : Int) (r : Bool) : Value := if f = 0 then .tuple #[.bool r, .int .i64 0] else .tuple #[.bool false, .int .i64 f]
/-- What Compare hands back. -/
def compV (f : Int) (r : Int) : Value := if f = 0 then .tuple #[.int .i64 r, .int .i64 0] else .tuple #[.int .i64 0, .int .i64 f]

set_option maxHeartbeats 1000000 in
theorem under_any (a b : List UInt8) (w : World) (ha : a.length ≤ 100000) (hb : b.length ≤ 100000) :
    Calls Tryd.prog 5 #[.string ⟨a.toArray⟩, .string ⟨b.toArray⟩] w (GivesV (underV (faultD a b) (underB a b)) w) := by
  have HA := Lib.hid (fun W => checkDomain_any a W ha)
  have HB := Lib.hid (fun W => checkDomain_any b W hb)
  have HU := Lib.hid (fun W => isUnder_any a b _ W ha rfl)
  have HO := Lib.hid (fun W => or2_any (domF a) (domF b) W)
  have hF : Hid (faultD a b = firstE [domF a, domF b]) := Lib.hid rfl
  rw [← hF.out] at HO
  generalize faultD a b = f at *
  generalize domF a = x at *
  generalize domF b = y at *
  generalize underB a b = r at *
  by_cases h0 : f = 0
  · have hv := Lib.hid (show underV f r = .tuple #[.bool r, .int .i64 0] by unfold underV; rw [if_pos h0])
    subst h0
    go_enter Tryd.func5, Tryd.ntmps5
    go_wp2_with fail
    refine (HA.out _).mono ?_
    rintro e w1 ⟨rfl, hbw⟩
    go_wp2_with fail
    refine (HB.out _).mono ?_
    rintro e w2 ⟨rfl, hb2⟩
    replace hbw := hbw.trans (hb2.mono hbw.size)
    clear hb2
    go_wp2_with fail
    refine (HO.out _).mono ?_
    rintro e w3 ⟨rfl, rfl⟩
    replace hbw := hbw.alloc hbw.size (.cells #[.int .i64 x, .int .i64 y] 27)
    go_wp2_with fail
    refine (HU.out _).mono ?_
    rintro e w4 ⟨rfl, rfl⟩
    go_wp2_with fail
    go_ret2
    exact ⟨by rw [hv.out]; rfl, hbw⟩
  · have hv := Lib.hid (show underV f r = .tuple #[.bool false, .int .i64 f] by unfold underV; rw [if_neg h0])
    go_enter Tryd.func5, Tryd.ntmps5
    go_wp2_with fail
    refine (HA.out _).mono ?_
    rintro e w1 ⟨rfl, hbw⟩
    go_wp2_with fail
    refine (HB.out _).mono ?_
    rintro e w2 ⟨rfl, hb2⟩
    replace hbw := hbw.trans (hb2.mono hbw.size)
    clear hb2
    go_wp2_with fail
    refine (HO.out _).mono ?_
    rintro e w3 ⟨rfl, rfl⟩
    replace hbw := hbw.alloc hbw.size (.cells #[.int .i64 x, .int .i64 y] 27)
    go_wp2_with fail
    go_ret2
    exact ⟨by rw [hv.out]; rfl, hbw⟩

set_option maxHeartbeats 1000000 in
theorem compareD_any (a b : List UInt8) (w : World) (hC : Cons w) (ha : a.length ≤ 100000) (hb : b.length ≤ 100000) :
    Calls Tryd.prog 6 #[.string ⟨a.toArray⟩, .string ⟨b.toArray⟩] w (GivesV (compV (faultD a b) (cmpLs (backs a) (backs b))) w) := by
  have HA := Lib.hid (fun W => checkDomain_any a W ha)
  have HB := Lib.hid (fun W => checkDomain_any b W hb)
  have HO := Lib.hid (fun W => or2_any (domF a) (domF b) W)
  have hF : Hid (faultD a b = firstE [domF a, domF b]) := Lib.hid rfl
  have HX := Lib.hid (fun W (hW : Below w.heap.size w W) => backwards_any a W (hC.below hW) ha)
  have HY := Lib.hid (fun W (hW : Below w.heap.size w W) => backwards_any b W (hC.below hW) hb)
  have hla := backs_len a
  have hlb := backs_len b
  rw [← hF.out] at HO
  generalize faultD a b = f at *
  generalize domF a = x at *
  generalize domF b = y at *
  generalize backs a = xs at *
  generalize backs b = ys at *
  have HC := Lib.hid (fun A B ca cb W (h1 : SlE eStr W A xs.length ca xs) (h2 : SlE eStr W B ys.length cb ys) => compareLs_any _ A B _ _ ca cb xs ys W h1 h2 (by omega) (by omega) rfl)
  generalize cmpLs xs ys = r at *
  clear hla hlb hC
  by_cases h0 : f = 0
  · have hv := Lib.hid (show compV f r = .tuple #[.int .i64 r, .int .i64 0] by unfold compV; rw [if_pos h0])
    subst h0
    go_enter Tryd.func6, Tryd.ntmps6
    go_wp2_with fail
    refine (HA.out _).mono ?_
    rintro e w1 ⟨rfl, hbw⟩
    go_wp2_with fail
    refine (HB.out _).mono ?_
    rintro e w2 ⟨rfl, hb2⟩
    replace hbw := hbw.trans (hb2.mono hbw.size)
    clear hb2
    go_wp2_with fail
    refine (HO.out _).mono ?_
    rintro e w3 ⟨rfl, rfl⟩
    replace hbw := hbw.alloc hbw.size (.cells #[.int .i64 x, .int .i64 y] 27)
    go_wp2_with fail
    refine (HX.out _ hbw).mono ?_
    rintro e w4 ⟨⟨A1, c1, rfl, hs1⟩, hb2⟩
    replace hbw := hbw.trans (hb2.mono hbw.size)
    clear hb2 HX
    obtain ⟨n1, hn1⟩ : ∃ n, n = xs.length := ⟨_, rfl⟩
    rw [← hn1] at hs1 HC ⊢
    replace hn1 := Lib.hid hn1
    go_wp2_with fail
    refine (HY.out _ hbw).mono ?_
    rintro e w5 ⟨⟨A2, c2, rfl, hs2⟩, hb2⟩
    replace hbw := hbw.trans (hb2.mono hbw.size)
    replace hs1 := hs1.below hb2
    clear hb2 HY
    obtain ⟨n2, hn2⟩ : ∃ n, n = ys.length := ⟨_, rfl⟩
    rw [← hn2] at hs2 HC ⊢
    replace hn2 := Lib.hid hn2
    go_wp2_with fail
    refine (HC.out _ _ _ _ _ hs1 hs2).mono ?_
    rintro e w6 ⟨rfl, rfl⟩
    go_wp2_with fail
    go_ret2
    exact ⟨by rw [hv.out]; rfl, hbw⟩
  · have hv := Lib.hid (show compV f r = .tuple #[.int .i64 0, .int .i64 f] by unfold compV; rw [if_neg h0])
    go_enter Tryd.func6, Tryd.ntmps6
    go_wp2_with fail
    refine (HA.out _).mono ?_
    rintro e w1 ⟨rfl, hbw⟩
    go_wp2_with fail
    refine (HB.out _).mono ?_
    rintro e w2 ⟨rfl, hb2⟩
    replace hbw := hbw.trans (hb2.mono hbw.size)
    clear hb2
    go_wp2_with fail
    refine (HO.out _).mono ?_
    rintro e w3 ⟨rfl, rfl⟩
    replace hbw := hbw.alloc hbw.size (.cells #[.int .i64 x, .int .i64 y] 27)
    go_wp2_with fail
    go_ret2
    exact ⟨by rw [hv.out]; rfl, hbw⟩

set_option maxHeartbeats 1000000 in
theorem isUnderR_any (a b : List UInt8) (r : Bool) (w : World) (ha : a.length ≤ 100000) (hb : b.length ≤ 100000) (hr : r = underB a b) :
    Calls Tryd.prog 11 #[.string ⟨a.toArray⟩, .string ⟨b.toArray⟩] w fun e w' => e = .returned (.bool r) ∧ w' = w := by
  unfold underB at hr
  by_cases he : a = b
  · rw [decide_eq_true he, Bool.true_or] at hr
    subst hr
    subst he
    go_enter Tryd.func11, Tryd.ntmps11
    go_wp2_with fail
    go_ret
    exact ⟨rfl, rfl⟩
  · rw [decide_eq_false he, Bool.false_or] at hr
    have hne : (a == b) = false := by simpa using he
    have HH := fun P (hP : P.data.toList = 46 :: b) => Tryd.strings_HasSuffix ⟨a.toArray⟩ P w (by rw [Lib.size_eq]; show a.length ≤ _; omega)
    have e3 : (⟨a.toArray⟩ : ByteArray).data.toList = a := rfl
    replace HH : ∀ P : ByteArray, P.data.toList = 46 :: b → Calls Tryd.prog 24 #[.string ⟨a.toArray⟩, .string P] w fun e w' => e = .returned (.bool r) ∧ w' = w := fun P hP => by
      have := HH P hP
      rw [e3, hP, ← hr] at this
      exact this
    replace HH := Lib.hid HH
    clear he hr
    go_enter Tryd.func11, Tryd.ntmps11
    go_wp2_with fail
    refine (HH.out _ (by simp)).mono ?_
    rintro e w1 ⟨rfl, rfl⟩
    go_wp2_with fail
    go_ret
    exact ⟨rfl, rfl⟩
end Go.Proofs.YtmfflcemceonhaaDoor
