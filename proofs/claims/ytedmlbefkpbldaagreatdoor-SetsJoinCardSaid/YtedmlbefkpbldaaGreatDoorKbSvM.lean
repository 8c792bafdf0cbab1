/- Sets: Union, Both, Without, Rest. -/
import Derived.Test.YtedmlbefkpbldaaGreatDoorKbSvL
import Derived.Test.YtedmlbefkpbldaaGreatDoorKbSvB
import Derived.Test.YtedmlbefkpbldaaGreatDoorKbSuE
namespace Go.Proofs.YtedmlbefkpbldaaGreatDoor
open Go.RowKit
set_option linter.unusedVariables false
set_option linter.unusedSimpArgs false

/-- What is combined of two sets, as numbers. -/
def CmbP (k : Bool → Bool → Bool) (xs ys : List Pf) (m : Nat) : Prop := Val m ∧ k (hasB (xs.map rgP) m) (hasB (ys.map rgP) m) = true
theorem hasB_joined {za xs : List (Ad × Ad)} (h : Joined za xs) (m : Nat) : hasB za m = hasB xs m := by
  rw [Bool.eq_iff_iff, hasB_iff, hasB_iff]
  exact h.tells.2.1 m

set_option maxRecDepth 100000 in
set_option maxHeartbeats 4000000 in
theorem combine_any (kf : Nat) (k : Bool → Bool → Bool) (HKp : Kp kf k) (A A' : Option Addr) (n cap n' cap' : Nat) (xs ys : List Pf) (w : World)
    (hS : SlE ePf w A n cap xs) (hS' : SlE ePf w A' n' cap' ys) (hn : n ≤ 1000) (hn' : n' ≤ 1000) (hU : ∀ p ∈ xs, p.U) (hU' : ∀ p ∈ ys, p.U) :
    Calls Tryz.prog 91 #[.slice A n cap, .slice A' n' cap', kpV kf] w fun e w' => ∃ A2 cap2 zs, e = .returned (.tuple #[.slice A2 zs.length cap2, .int .i64 (firstZ [setF xs, setF ys])]) ∧ SlE eRg w' A2 zs.length cap2 zs ∧ (firstZ [setF xs, setF ys] = 0 → (∀ p ∈ xs, p.R) ∧ (∀ p ∈ ys, p.R) ∧ Tells zs (CmbP k xs ys)) ∧ (firstZ [setF xs, setF ys] ≠ 0 → zs = []) ∧ zs.length ≤ 2 + 2 * (n + n') ∧ Below w.heap.size w w' := by
  have HC1 := Lib.hid (checkSet_any A n cap xs w hS hn hU)
  have HC2 := Lib.hid (fun W (hW : Below w.heap.size w W) => checkSet_any A' n' cap' ys W (hS'.below hW) hn' hU')
  have HR := Lib.hid (show firstZ [setF xs, setF ys] = 0 → (∀ p ∈ xs, p.R) ∧ (∀ p ∈ ys, p.R) from fun h => ⟨setF_ok hU ((firstZ_both _ _).1 h).1, setF_ok hU' ((firstZ_both _ _).1 h).2⟩)
  have HO1 := Lib.hid (fun W (hW : Below w.heap.size w W) hR => ofP_any A n cap xs W (hS.below hW) (by omega) hR)
  have HO2 := Lib.hid (fun W (hW : Below w.heap.size w W) hR => ofP_any A' n' cap' ys W (hS'.below hW) (by omega) hR)
  have HX := Lib.hid (fun A1 A2 c1 c2 za zb W (h1 : Joined za (xs.map rgP)) (h2 : Joined zb (ys.map rgP)) (l1 : za.length ≤ n) (l2 : zb.length ≤ n') s1 s2 => combineS_any kf k HKp A1 A2 za.length c1 zb.length c2 za zb W s1 s2 (by omega) (by omega) h1.2.2 h2.2.2 h1.tells.1 h2.tells.1)
  clear hS hS' hU hU' HKp
  obtain ⟨E1, hE1⟩ : ∃ E, E = setF xs := ⟨_, rfl⟩
  obtain ⟨E2, hE2⟩ : ∃ E, E = setF ys := ⟨_, rfl⟩
  rw [← hE1] at HC1 HR ⊢
  rw [← hE2] at HC2 HR ⊢
  clear hE1 hE2
  obtain ⟨E, hE⟩ : ∃ E, E = firstZ [E1, E2] := ⟨_, rfl⟩
  rw [← hE] at HR ⊢
  replace hE := Lib.hid hE
  go_enter Tryz.func91, Tryz.ntmps91
  go_wp2_with fail
  refine HC1.out.mono ?_
  rintro e w1 ⟨rfl, b1⟩
  go_wp2_with fail
  refine (HC2.out _ b1).mono ?_
  rintro e w2 ⟨rfl, hv2⟩
  have b2 := b1.trans (hv2.mono b1.size)
  have hz2 := b2.size
  have hN := Blk.new w2 ([E1, E2].map (Value.int .i64)) 30
  have b3 := b2.alloc hz2 (.cells ([E1, E2].map (Value.int .i64)).toArray 30)
  have HE := Lib.hid (orE_blk [E1, E2] _ 2 _ _ hN (by simp))
  rw [← hE.out] at HE
  clear hN HC1 HC2 b1 hv2 b2
  go_wp2_with fail
  refine HE.out.mono ?_
  rintro e w3 ⟨rfl, rfl⟩
  by_cases hE0 : E = 0
  · have b0 : (E == 0) = true := by simp [hE0]
    have hE1 := Lib.hid hE0
    obtain ⟨hRx, hRy⟩ := HR.out hE0
    clear hE0
    have HO1' := Lib.hid (HO1.out _ b3 hRx)
    replace hRx := Lib.hid hRx
    replace hRy := Lib.hid hRy
    clear HR HE HO1
    go_wp2_with fail
    refine HO1'.out.mono ?_
    rintro e w4 ⟨za, hja, hla, ⟨A4, c4, rfl, hS4, _⟩, hv4⟩
    have b4 := b3.trans (hv4.mono b3.size)
    have HO2' := Lib.hid (HO2.out _ b4 hRy.out)
    clear HO1' HO2 hv4 b3
    replace hS4 := Lib.hid hS4
    replace hja := Lib.hid hja
    replace hla := Lib.hid hla
    obtain ⟨la, hlae⟩ : ∃ m, m = za.length := ⟨_, rfl⟩
    rw [← hlae] at hS4 ⊢
    replace hlae := Lib.hid hlae
    go_wp2_with fail
    refine HO2'.out.mono ?_
    rintro e w5 ⟨zb, hjb, hlb, ⟨A5, c5, rfl, hS5, _⟩, hv5⟩
    have b5 := b4.trans (hv5.mono b4.size)
    have HX' := Lib.hid (HX.out A4 A5 c4 c5 za zb w5 hja.out hjb hla.out hlb (by rw [← hlae.out]; exact hS4.out.below hv5) hS5)
    have hpe : ∀ m, (Val m ∧ k (hasB za m) (hasB zb m) = true) ↔ CmbP k xs ys m := fun m => by
      unfold CmbP
      rw [hasB_joined hja.out, hasB_joined hjb]
    replace hpe := Lib.hid hpe
    have hll := Lib.hid (show 2 + 2 * (za.length + zb.length) ≤ 2 + 2 * (n + n') by have := hla.out; omega)
    rw [← hlae.out] at HX'
    clear HO2' HX hv5 hS5 hS4 b4 hjb hlb hja hla
    obtain ⟨lb, hlbe⟩ : ∃ m, m = zb.length := ⟨_, rfl⟩
    rw [← hlbe] at HX' ⊢
    replace hlbe := Lib.hid hlbe
    go_wp2_with fail
    refine HX'.out.mono ?_
    rintro e w6 ⟨zs, hz, hlz, ⟨A6, cap6, rfl, hS6, hA6⟩, hv6⟩
    have b6 := b5.trans (hv6.mono b5.size)
    have hfin := Lib.hid (show Tells zs (CmbP k xs ys) from hz.iff hpe.out)
    have hl2 := Lib.hid (show zs.length ≤ 2 + 2 * (n + n') by have := hll.out; have := hlae.out; have := hlbe.out; omega)
    replace hS6 := Lib.hid hS6
    clear HX' hz hlz hv6 hA6
    generalize hm : zs.length = m2 at *
    replace hm := Lib.hid hm
    go_wp2_with fail
    go_ret2
    exact ⟨A6, cap6, zs, by rw [hm.out, hE1.out]; rfl, by rw [hm.out]; exact hS6.out, fun _ => ⟨hRx.out, hRy.out, hfin.out⟩, fun h => absurd hE1.out h, by rw [hm.out]; exact hl2.out, b6⟩
  · have b0 : (E == 0) = false := by simp [hE0]
    have hE1 := Lib.hid hE0
    clear hE0 HR HE HO1 HO2 HX
    go_wp2_with fail
    go_ret2
    exact ⟨none, 0, [], rfl, SlE.nil _, fun h => absurd h hE1.out, fun _ => rfl, Nat.zero_le _, b3⟩

/-- A set that is combined of two. -/
def CmbS (k : Bool → Bool → Bool) (xs ys : List Pf) (ps : List Pf) : Prop := (∀ p ∈ xs, p.R) ∧ (∀ p ∈ ys, p.R) ∧ ∃ zs, Tells zs (CmbP k xs ys) ∧ ps = pfsOf (zs.map rowA)
set_option maxRecDepth 100000 in
set_option maxHeartbeats 4000000 in
theorem combined_any (kf : Nat) (k : Bool → Bool → Bool) (HKp : Kp kf k) (A A' : Option Addr) (n cap n' cap' : Nat) (xs ys : List Pf) (w : World)
    (hS : SlE ePf w A n cap xs) (hS' : SlE ePf w A' n' cap' ys) (hn : n ≤ 1000) (hn' : n' ≤ 1000) (hU : ∀ p ∈ xs, p.U) (hU' : ∀ p ∈ ys, p.U) (hT : Tz w)
    (hN : (∀ p ∈ xs, p.R) → (∀ p ∈ ys, p.R) → ∀ zs, Tells zs (CmbP k xs ys) → (pfsOf (zs.map rowA)).length ≤ 1000) :
    Calls Tryz.prog 83 #[.slice A n cap, .slice A' n' cap', kpV kf] w (GivesS (firstZ [setF xs, setF ys]) (CmbS k xs ys) w) := by
  have HC := Lib.hid (combine_any kf k HKp A A' n cap n' cap' xs ys w hS hS' hn hn' hU hU')
  replace hN := Lib.hid hN
  have hT1 : Hid (∀ W, Below w.heap.size w W → Tz W) := Lib.hid fun W h => hT.below h
  clear hS hS' hU hU' HKp hT
  generalize firstZ [setF xs, setF ys] = E at *
  go_enter Tryz.func83, Tryz.ntmps83
  go_wp2_with fail
  refine HC.out.mono ?_
  rintro e w1 ⟨A2, cap2, zs, rfl, hS2, h1, h2, hlz, b1⟩
  clear HC
  by_cases hE0 : E = 0
  · have b0 : (E == 0) = true := by simp [hE0]
    have hE1 := Lib.hid hE0
    obtain ⟨hRx, hRy, hz⟩ := h1 hE0
    clear hE0
    have HO := Lib.hid (setOf_any A2 zs.length cap2 zs w1 hS2 (by omega) hz.2.2 (hT1.out _ b1) (hN.out hRx hRy zs hz))
    have hfin := Lib.hid (show CmbS k xs ys (pfsOf (zs.map rowA)) from ⟨hRx, hRy, zs, hz, rfl⟩)
    clear h1 h2 hS2 hRx hRy hz hlz
    generalize zs.length = m at *
    go_wp2_with fail
    refine HO.out.mono ?_
    rintro e w6 ⟨⟨v, rfl, ho⟩, hv1⟩
    have hz5 := b1.size
    have b6 := b1.trans (hv1.mono hz5)
    clear HO hv1
    go_wp2_with fail
    go_ret2
    exact ⟨v, _, by rw [hE1.out]; rfl, OwnE.mono ho hz5, fun _ => hfin.out, fun h => absurd hE1.out h, b6⟩
  · have b0 : (E == 0) = false := by simp [hE0]
    have hE1 := Lib.hid hE0
    clear hE0 h1 h2 hS2
    generalize zs.length = m at *
    go_wp2_with fail
    go_ret2
    exact ⟨_, [], rfl, OwnE.nil _ _, fun h => absurd h hE1.out, fun _ => rfl, b1⟩

theorem kp_union : Kp 84 (fun p q => p || q) where
  run := fun p q W => by
    cases p <;> cases q
    all_goals
      go_enter Tryz.func84, Tryz.ntmps84
      go_wp2_with fail
      go_ret
      exact ⟨rfl, Below.refl _ _⟩
  enter := enters_of Tryz.func84 (by kernel_rfl) rfl

theorem kp_both : Kp 85 (fun p q => p && q) where
  run := fun p q W => by
    cases p <;> cases q
    all_goals
      go_enter Tryz.func85, Tryz.ntmps85
      go_wp2_with fail
      go_ret
      exact ⟨rfl, Below.refl _ _⟩
  enter := enters_of Tryz.func85 (by kernel_rfl) rfl

theorem kp_without : Kp 86 (fun p q => p && !q) where
  run := fun p q W => by
    cases p <;> cases q
    all_goals
      go_enter Tryz.func86, Tryz.ntmps86
      go_wp2_with fail
      go_ret
      exact ⟨rfl, Below.refl _ _⟩
  enter := enters_of Tryz.func86 (by kernel_rfl) rfl

theorem kp_rest : Kp 87 (fun p q => !p) where
  run := fun p q W => by
    cases p <;> cases q
    all_goals
      go_enter Tryz.func87, Tryz.ntmps87
      go_wp2_with fail
      go_ret
      exact ⟨rfl, Below.refl _ _⟩
  enter := enters_of Tryz.func87 (by kernel_rfl) rfl

theorem kp_covers : Kp 92 (fun p q => q && !p) where
  run := fun p q W => by
    cases p <;> cases q
    all_goals
      go_enter Tryz.func92, Tryz.ntmps92
      go_wp2_with fail
      go_ret
      exact ⟨rfl, Below.refl _ _⟩
  enter := enters_of Tryz.func92 (by kernel_rfl) rfl

set_option maxRecDepth 100000 in
theorem union_any (A A' : Option Addr) (n cap n' cap' : Nat) (xs ys : List Pf) (w : World) (hS : SlE ePf w A n cap xs) (hS' : SlE ePf w A' n' cap' ys) (hn : n ≤ 1000) (hn' : n' ≤ 1000) (hU : ∀ p ∈ xs, p.U) (hU' : ∀ p ∈ ys, p.U) (hT : Tz w)
    (hN : (∀ p ∈ xs, p.R) → (∀ p ∈ ys, p.R) → ∀ zs, Tells zs (CmbP (fun p q => p || q) xs ys) → (pfsOf (zs.map rowA)).length ≤ 1000) :
    Calls Tryz.prog 41 #[.slice A n cap, .slice A' n' cap'] w (GivesS (firstZ [setF xs, setF ys]) (CmbS (fun p q => p || q) xs ys) w) := by
  have H := Lib.hid (combined_any _ _ kp_union A A' n cap n' cap' xs ys w hS hS' hn hn' hU hU' hT hN)
  clear hS hS' hU hU' hN hT
  generalize firstZ [setF xs, setF ys] = E at *
  go_enter Tryz.func41, Tryz.ntmps41
  go_wp2_with fail
  refine H.out.mono ?_
  rintro e w1 ⟨v, ps, rfl, ho, h1, h2, hb⟩
  replace h1 := Lib.hid h1
  replace h2 := Lib.hid h2
  clear H
  go_wp2_with fail
  go_ret2
  exact ⟨v, ps, rfl, ho, h1.out, h2.out, hb⟩

set_option maxRecDepth 100000 in
theorem both_any (A A' : Option Addr) (n cap n' cap' : Nat) (xs ys : List Pf) (w : World) (hS : SlE ePf w A n cap xs) (hS' : SlE ePf w A' n' cap' ys) (hn : n ≤ 1000) (hn' : n' ≤ 1000) (hU : ∀ p ∈ xs, p.U) (hU' : ∀ p ∈ ys, p.U) (hT : Tz w)
    (hN : (∀ p ∈ xs, p.R) → (∀ p ∈ ys, p.R) → ∀ zs, Tells zs (CmbP (fun p q => p && q) xs ys) → (pfsOf (zs.map rowA)).length ≤ 1000) :
    Calls Tryz.prog 42 #[.slice A n cap, .slice A' n' cap'] w (GivesS (firstZ [setF xs, setF ys]) (CmbS (fun p q => p && q) xs ys) w) := by
  have H := Lib.hid (combined_any _ _ kp_both A A' n cap n' cap' xs ys w hS hS' hn hn' hU hU' hT hN)
  clear hS hS' hU hU' hN hT
  generalize firstZ [setF xs, setF ys] = E at *
  go_enter Tryz.func42, Tryz.ntmps42
  go_wp2_with fail
  refine H.out.mono ?_
  rintro e w1 ⟨v, ps, rfl, ho, h1, h2, hb⟩
  replace h1 := Lib.hid h1
  replace h2 := Lib.hid h2
  clear H
  go_wp2_with fail
  go_ret2
  exact ⟨v, ps, rfl, ho, h1.out, h2.out, hb⟩

set_option maxRecDepth 100000 in
theorem without_any (A A' : Option Addr) (n cap n' cap' : Nat) (xs ys : List Pf) (w : World) (hS : SlE ePf w A n cap xs) (hS' : SlE ePf w A' n' cap' ys) (hn : n ≤ 1000) (hn' : n' ≤ 1000) (hU : ∀ p ∈ xs, p.U) (hU' : ∀ p ∈ ys, p.U) (hT : Tz w)
    (hN : (∀ p ∈ xs, p.R) → (∀ p ∈ ys, p.R) → ∀ zs, Tells zs (CmbP (fun p q => p && !q) xs ys) → (pfsOf (zs.map rowA)).length ≤ 1000) :
    Calls Tryz.prog 43 #[.slice A n cap, .slice A' n' cap'] w (GivesS (firstZ [setF xs, setF ys]) (CmbS (fun p q => p && !q) xs ys) w) := by
  have H := Lib.hid (combined_any _ _ kp_without A A' n cap n' cap' xs ys w hS hS' hn hn' hU hU' hT hN)
  clear hS hS' hU hU' hN hT
  generalize firstZ [setF xs, setF ys] = E at *
  go_enter Tryz.func43, Tryz.ntmps43
  go_wp2_with fail
  refine H.out.mono ?_
  rintro e w1 ⟨v, ps, rfl, ho, h1, h2, hb⟩
  replace h1 := Lib.hid h1
  replace h2 := Lib.hid h2
  clear H
  go_wp2_with fail
  go_ret2
  exact ⟨v, ps, rfl, ho, h1.out, h2.out, hb⟩

set_option maxRecDepth 100000 in
theorem rest_any (A : Option Addr) (n cap : Nat) (xs : List Pf) (w : World) (hS : SlE ePf w A n cap xs) (hn : n ≤ 1000) (hU : ∀ p ∈ xs, p.U) (hT : Tz w)
    (hN : (∀ p ∈ xs, p.R) → ∀ zs, Tells zs (CmbP (fun p q => !p) xs []) → (pfsOf (zs.map rowA)).length ≤ 1000) :
    Calls Tryz.prog 44 #[.slice A n cap] w (GivesS (firstZ [setF xs, setF []]) (CmbS (fun p q => !p) xs []) w) := by
  have H := Lib.hid (combined_any _ _ kp_rest A none n cap 0 0 xs [] w hS (SlE.nil _) hn (by omega) hU (fun p hp => by cases hp) hT (fun a _ => hN a))
  clear hS hU hN hT
  generalize firstZ [setF xs, setF []] = E at *
  go_enter Tryz.func44, Tryz.ntmps44
  go_wp2_with fail
  refine H.out.mono ?_
  rintro e w1 ⟨v, ps, rfl, ho, h1, h2, hb⟩
  replace h1 := Lib.hid h1
  replace h2 := Lib.hid h2
  clear H
  go_wp2_with fail
  go_ret2
  exact ⟨v, ps, rfl, ho, h1.out, h2.out, hb⟩
end Go.Proofs.YtedmlbefkpbldaaGreatDoor
