/- DomainsCompare: CheckDomain, Under and Compare are as specified for all strings. -/
import Derived.Test.YtmfflcemceonhaaDoorKfDcE
import Derived.Test.YtmfflcemceonhaaDoorKfNmU
import Derived.Test.YtmfflcemceonhaaDoorKfNmD
namespace Go.Proofs.YtmfflcemceonhaaDoor
open Go.RowKit
set_option linter.unusedVariables false
set_option linter.unusedSimpArgs false

set_option maxHeartbeats 4000000 in
set_option maxRecDepth 100000 in
theorem domainsCompare_walk (a : Option Addr) (len cap : Nat) (w : World) (hC : Cons w) (hs : Str (w.alloc (.cells #[.slice a len cap, .int .i64 0] 25)) w.heap.size 1000) :
    Calls Tryd.prog 3 #[.slice a len cap] w fun e w' => e = .returned (.bool true) ∧ Below w.heap.size w w' := by
  have hB0 : Below w.heap.size w (w.alloc (.cells #[.slice a len cap, .int .i64 0] 25)) := (Below.refl _ _).alloc (Nat.le_refl _) _
  go_enter Tryd.func3, Tryd.ntmps3
  go_wp2_with fail
  refine (domain_any _ _ 900 (hs.le (by omega))).mono ?_
  rintro e w1 ⟨l, hl, rfl, hs1, hg1⟩
  have hb : Below w.heap.size w w1 := hB0.trans (gb_toBelow hg1 (Nat.le_refl _) (by simp))
  clear hs hB0 hg1
  go_wp2_with fail
  refine (domain_any _ _ 800 (hs1.le (by omega))).mono ?_
  rintro e w2 ⟨k, hk, rfl, hs2, hg2⟩
  replace hb : Below w.heap.size w w2 := hb.trans (gb_toBelow hg2 (Nat.le_refl _) (by have := hs1.lt; omega))
  clear hs1 hs2 hg2
  have HU := Lib.hid (fun W => under_any l k W (by omega) (by omega))
  have HK := Lib.hid (fun W (hW : Below w.heap.size w W) => compareD_any l k W (hC.below hW) (by omega) (by omega))
  have HCa := Lib.hid (fun W => checkDomain_any l W (by omega))
  have HFa := Lib.hid (fun W (hW : Below w.heap.size w W) => domainFault_any l W (hC.below hW) (by omega))
  have HFb := Lib.hid (fun W (hW : Below w.heap.size w W) => domainFault_any k W (hC.below hW) (by omega))
  have HI := Lib.hid (fun W => isUnderR_any l k _ W (by omega) (by omega) rfl)
  have HN := Lib.hid (fun W (hW : Below w.heap.size w W) => nameOrder_any l k W (hC.below hW) (by omega) (by omega))
  have HO := Lib.hid (fun W => or2_any (domF l) (domF k) W)
  have hF : Hid (faultD l k = firstE [domF l, domF k]) := Lib.hid rfl
  rw [← hF.out] at HO
  clear hF hl hk hC
  generalize faultD l k = f at *
  generalize domF l = x at *
  generalize domF k = y at *
  generalize underB l k = r at *
  generalize cmpLs (backs l) (backs k) = z at *
  by_cases h0 : f = 0
  · have hv : underV f r = .tuple #[.bool r, .int .i64 0] := by unfold underV; rw [if_pos h0]
    have hw : compV f z = .tuple #[.int .i64 z, .int .i64 0] := by unfold compV; rw [if_pos h0]
    rw [hv] at HU
    rw [hw] at HK
    subst h0
    clear hv hw
    go_wp2_with fail
    refine (HU.out _ ).mono ?_
    rintro e w3 ⟨rfl, hb2⟩
    replace hb := hb.trans (hb2.mono hb.size)
    clear hb2 HU
    go_wp2_with fail
    refine (HK.out _ hb).mono ?_
    rintro e w4 ⟨rfl, hb2⟩
    replace hb := hb.trans (hb2.mono hb.size)
    clear hb2 HK
    go_wp2_with fail
    refine (HCa.out _).mono ?_
    rintro e w5 ⟨rfl, hb2⟩
    replace hb := hb.trans (hb2.mono hb.size)
    clear hb2 HCa
    go_wp2_with fail
    refine (HFa.out _ hb).mono ?_
    rintro e w6 ⟨rfl, hb2⟩
    replace hb := hb.trans (hb2.mono hb.size)
    clear hb2
    go_wp2_with fail
    refine (HFa.out _ hb).mono ?_
    rintro e w7 ⟨rfl, hb2⟩
    replace hb := hb.trans (hb2.mono hb.size)
    clear hb2 HFa
    go_wp2_with fail
    refine (HFb.out _ hb).mono ?_
    rintro e w8 ⟨rfl, hb2⟩
    replace hb := hb.trans (hb2.mono hb.size)
    clear hb2 HFb
    go_wp2_with fail
    refine (HO.out _).mono ?_
    rintro e w9 ⟨rfl, rfl⟩
    replace hb := hb.alloc hb.size (.cells #[.int .i64 x, .int .i64 y] 27)
    clear HO
    go_wp2_with fail
    refine (HI.out _).mono ?_
    rintro e w10 ⟨rfl, rfl⟩
    clear HI
    go_wp2_with fail
    refine (HN.out _ hb).mono ?_
    rintro e w11 ⟨rfl, hb2⟩
    replace hb := hb.trans (hb2.mono hb.size)
    clear hb2 HN
    go_wp2_with fail
    refine (named_any _).mono ?_
    rintro e w12 ⟨rfl, hb2⟩
    replace hb := hb.trans (hb2.mono hb.size)
    go_wp2_with fail
    go_ret
    exact ⟨rfl, hb⟩
  · have hv : underV f r = .tuple #[.bool false, .int .i64 f] := by unfold underV; rw [if_neg h0]
    have hw : compV f z = .tuple #[.int .i64 0, .int .i64 f] := by unfold compV; rw [if_neg h0]
    rw [hv] at HU
    rw [hw] at HK
    clear hv hw HI HN
    go_wp2_with fail
    refine (HU.out _ ).mono ?_
    rintro e w3 ⟨rfl, hb2⟩
    replace hb := hb.trans (hb2.mono hb.size)
    clear hb2 HU
    go_wp2_with fail
    refine (HK.out _ hb).mono ?_
    rintro e w4 ⟨rfl, hb2⟩
    replace hb := hb.trans (hb2.mono hb.size)
    clear hb2 HK
    go_wp2_with fail
    refine (HCa.out _).mono ?_
    rintro e w5 ⟨rfl, hb2⟩
    replace hb := hb.trans (hb2.mono hb.size)
    clear hb2 HCa
    go_wp2_with fail
    refine (HFa.out _ hb).mono ?_
    rintro e w6 ⟨rfl, hb2⟩
    replace hb := hb.trans (hb2.mono hb.size)
    clear hb2
    go_wp2_with fail
    refine (HFa.out _ hb).mono ?_
    rintro e w7 ⟨rfl, hb2⟩
    replace hb := hb.trans (hb2.mono hb.size)
    clear hb2 HFa
    go_wp2_with fail
    refine (HFb.out _ hb).mono ?_
    rintro e w8 ⟨rfl, hb2⟩
    replace hb := hb.trans (hb2.mono hb.size)
    clear hb2 HFb
    go_wp2_with fail
    refine (HO.out _).mono ?_
    rintro e w9 ⟨rfl, rfl⟩
    replace hb := hb.alloc hb.size (.cells #[.int .i64 x, .int .i64 y] 27)
    clear HO
    go_wp2_with fail
    refine (named_any _).mono ?_
    rintro e w12 ⟨rfl, hb2⟩
    replace hb := hb.trans (hb2.mono hb.size)
    go_wp2_with fail
    go_ret
    exact ⟨rfl, hb⟩
end Go.Proofs.YtmfflcemceonhaaDoor
