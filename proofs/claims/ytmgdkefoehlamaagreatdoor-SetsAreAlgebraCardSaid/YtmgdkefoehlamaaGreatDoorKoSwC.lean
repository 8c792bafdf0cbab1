/- Counts: plus. -/
import Derived.Test.YtmgdkefoehlamaaGreatDoorKoGzA
import Derived.Test.YtmgdkefoehlamaaGreatDoorKoSvL
import Derived.Test.YtmgdkefoehlamaaGreatDoorKoSvE
import Derived.Test.YtmgdkefoehlamaaGreatDoorKoSgC
import Derived.Test.YtmgdkefoehlamaaGreatDoorKoStT
import Derived.Test.YtmgdkefoehlamaaGreatDoorKoWaysB
import Derived.Lib.AppendZerosOnto
import Derived.Laws.AppendOwnNone
import Derived.Test.YtmgdkefoehlamaaGreatDoorKoTxtJ
import Derived.Test.YtmgdkefoehlamaaGreatDoorKoSgB
set_option linter.unusedVariables false
set_option linter.unusedSimpArgs false
set_option maxRecDepth 100000
namespace Go.Proofs.YtmgdkefoehlamaaGreatDoor
open Go.RowKit

def CmbP (k : Bool → Bool → Bool) (xs ys : List Pf) (m : Nat) : Prop := Val m ∧ k (hasB (xs.map rgP) m) (hasB (ys.map rgP) m) = true
theorem hasB_joined {za xs : List (Ad × Ad)} (h : Joined za xs) (m : Nat) : hasB za m = hasB xs m := by
  rw [Bool.eq_iff_iff, hasB_iff, hasB_iff]
  exact h.tells.2.1 m

set_option maxHeartbeats 4000000 in
theorem combine_any (kf : Nat) (k : Bool → Bool → Bool) (HKp : Kp kf k) (A A' : Option Addr) (n cap n' cap' : Nat) (xs ys : List Pf) (w : World)
    (hS : SlE ePf w A n cap xs) (hS' : SlE ePf w A' n' cap' ys) (hn : n ≤ 1000) (hn' : n' ≤ 1000) (hU : ∀ p ∈ xs, p.U) (hU' : ∀ p ∈ ys, p.U) :
    Calls Tryz.prog 52 #[.slice A n cap, .slice A' n' cap', kpV kf] w fun e w' => ∃ A2 cap2 zs, e = .returned (.tuple #[.slice A2 zs.length cap2, .int .i64 (firstZ [setF xs, setF ys])]) ∧ SlE eRg w' A2 zs.length cap2 zs ∧ (firstZ [setF xs, setF ys] = 0 → (∀ p ∈ xs, p.R) ∧ (∀ p ∈ ys, p.R) ∧ Tells zs (CmbP k xs ys)) ∧ (firstZ [setF xs, setF ys] ≠ 0 → zs = []) ∧ zs.length ≤ 2 + 2 * (n + n') ∧ Below w.heap.size w w' := by
  have HC1 := Lib.hid (checkSet_any A n cap xs w hS hn hU)
  have HC2 := Lib.hid (fun W (hW : Below w.heap.size w W) => checkSet_any A' n' cap' ys W (hS'.below hW) hn' hU')
  have HR := Lib.hid (show firstZ [setF xs, setF ys] = 0 → (∀ p ∈ xs, p.R) ∧ (∀ p ∈ ys, p.R) from fun h => ⟨setF_ok hU ((firstZ_both _ _).1 h).1, setF_ok hU' ((firstZ_both _ _).1 h).2⟩)
  have HO1 := Lib.hid (fun W (hW : Below w.heap.size w W) hR => ofP_any A n cap xs W (hS.below hW) (by omega) hR)
  have HO2 := Lib.hid (fun W (hW : Below w.heap.size w W) hR => ofP_any A' n' cap' ys W (hS'.below hW) (by omega) hR)
  have HX := Lib.hid (fun A1 A2 c1 c2 za zb W (h1 : Joined za (xs.map rgP)) (h2 : Joined zb (ys.map rgP)) (l1 : za.length ≤ n) (l2 : zb.length ≤ n') s1 s2 => combineS_any kf k HKp A1 A2 za.length c1 zb.length c2 za zb W s1 s2 (by omega) (by omega) h1.2.2 h2.2.2 h1.tells.1 h2.tells.1)
  clear hS hS' hU hU' HKp
  obtain ⟨E1, hE1⟩ : ∃ E, E = setF xs := ⟨_, rfl⟩
  obtain ⟨E2, hE2⟩ : ∃ E, E = setF ys := ⟨_, rfl⟩
  rw [← hE1] at HC1 HR ⊢
  rw [← hE2] at HC2 HR ⊢
  clear hE1 hE2
  obtain ⟨E, hE⟩ : ∃ E, E = firstZ [E1, E2] := ⟨_, rfl⟩
  rw [← hE] at HR ⊢
  replace hE := Lib.hid hE
  go_enter Tryz.func52, Tryz.ntmps52
  go_wp2_with fail
  refine HC1.out.mono ?_
  rintro e w1 ⟨rfl, b1⟩
  go_wp2_with fail
  refine (HC2.out _ b1).mono ?_
  rintro e w2 ⟨rfl, hv2⟩
  have b2 := b1.trans (hv2.mono b1.size)
  have hz2 := b2.size
  have hN := Blk.new w2 ([E1, E2].map (Value.int .i64)) 28
  have b3 := b2.alloc hz2 (.cells ([E1, E2].map (Value.int .i64)).toArray 28)
  have HE := Lib.hid (orE_blk [E1, E2] _ 2 _ _ hN (by simp))
  rw [← hE.out] at HE
  clear hN HC1 HC2 b1 hv2 b2
  go_wp2_with fail
  refine HE.out.mono ?_
  rintro e w3 ⟨rfl, rfl⟩
  by_cases hE0 : E = 0
  · have b0 : (E == 0) = true := by simp [hE0]
    have hE1 := Lib.hid hE0
    obtain ⟨hRx, hRy⟩ := HR.out hE0
    clear hE0
    have HO1' := Lib.hid (HO1.out _ b3 hRx)
    replace hRx := Lib.hid hRx
    replace hRy := Lib.hid hRy
    clear HR HE HO1
    go_wp2_with fail
    refine HO1'.out.mono ?_
    rintro e w4 ⟨za, hja, hla, ⟨A4, c4, rfl, hS4, _⟩, hv4⟩
    have b4 := b3.trans (hv4.mono b3.size)
    have HO2' := Lib.hid (HO2.out _ b4 hRy.out)
    clear HO1' HO2 hv4 b3
    replace hS4 := Lib.hid hS4
    replace hja := Lib.hid hja
    replace hla := Lib.hid hla
    obtain ⟨la, hlae⟩ : ∃ m, m = za.length := ⟨_, rfl⟩
    rw [← hlae] at hS4 ⊢
    replace hlae := Lib.hid hlae
    go_wp2_with fail
    refine HO2'.out.mono ?_
    rintro e w5 ⟨zb, hjb, hlb, ⟨A5, c5, rfl, hS5, _⟩, hv5⟩
    have b5 := b4.trans (hv5.mono b4.size)
    have HX' := Lib.hid (HX.out A4 A5 c4 c5 za zb w5 hja.out hjb hla.out hlb (by rw [← hlae.out]; exact hS4.out.below hv5) hS5)
    have hpe : ∀ m, (Val m ∧ k (hasB za m) (hasB zb m) = true) ↔ CmbP k xs ys m := fun m => by
      unfold CmbP
      rw [hasB_joined hja.out, hasB_joined hjb]
    replace hpe := Lib.hid hpe
    have hll := Lib.hid (show 2 + 2 * (za.length + zb.length) ≤ 2 + 2 * (n + n') by have := hla.out; omega)
    rw [← hlae.out] at HX'
    clear HO2' HX hv5 hS5 hS4 b4 hjb hlb hja hla
    obtain ⟨lb, hlbe⟩ : ∃ m, m = zb.length := ⟨_, rfl⟩
    rw [← hlbe] at HX' ⊢
    replace hlbe := Lib.hid hlbe
    go_wp2_with fail
    refine HX'.out.mono ?_
    rintro e w6 ⟨zs, hz, hlz, ⟨A6, cap6, rfl, hS6, hA6⟩, hv6⟩
    have b6 := b5.trans (hv6.mono b5.size)
    have hfin := Lib.hid (show Tells zs (CmbP k xs ys) from hz.iff hpe.out)
    have hl2 := Lib.hid (show zs.length ≤ 2 + 2 * (n + n') by have := hll.out; have := hlae.out; have := hlbe.out; omega)
    replace hS6 := Lib.hid hS6
    clear HX' hz hlz hv6 hA6
    generalize hm : zs.length = m2 at *
    replace hm := Lib.hid hm
    go_wp2_with fail
    go_ret2
    exact ⟨A6, cap6, zs, by rw [hm.out, hE1.out]; rfl, by rw [hm.out]; exact hS6.out, fun _ => ⟨hRx.out, hRy.out, hfin.out⟩, fun h => absurd hE1.out h, by rw [hm.out]; exact hl2.out, b6⟩
  · have b0 : (E == 0) = false := by simp [hE0]
    have hE1 := Lib.hid hE0
    clear hE0 HR HE HO1 HO2 HX
    go_wp2_with fail
    go_ret2
    exact ⟨none, 0, [], rfl, SlE.nil _, fun h => absurd h hE1.out, fun _ => rfl, Nat.zero_le _, b3⟩

def CmbS (k : Bool → Bool → Bool) (xs ys : List Pf) (ps : List Pf) : Prop := (∀ p ∈ xs, p.R) ∧ (∀ p ∈ ys, p.R) ∧ ∃ zs, Tells zs (CmbP k xs ys) ∧ ps = pfsOf (zs.map rowA)
set_option maxHeartbeats 4000000 in
theorem combined_any (kf : Nat) (k : Bool → Bool → Bool) (HKp : Kp kf k) (A A' : Option Addr) (n cap n' cap' : Nat) (xs ys : List Pf) (w : World)
    (hS : SlE ePf w A n cap xs) (hS' : SlE ePf w A' n' cap' ys) (hn : n ≤ 1000) (hn' : n' ≤ 1000) (hU : ∀ p ∈ xs, p.U) (hU' : ∀ p ∈ ys, p.U) (hT : Tz w)
    (hN : (∀ p ∈ xs, p.R) → (∀ p ∈ ys, p.R) → ∀ zs, Tells zs (CmbP k xs ys) → (pfsOf (zs.map rowA)).length ≤ 1000) :
    Calls Tryz.prog 27 #[.slice A n cap, .slice A' n' cap', kpV kf] w (GivesS (firstZ [setF xs, setF ys]) (CmbS k xs ys) w) := by
  have HC := Lib.hid (combine_any kf k HKp A A' n cap n' cap' xs ys w hS hS' hn hn' hU hU')
  replace hN := Lib.hid hN
  have hT1 : Hid (∀ W, Below w.heap.size w W → Tz W) := Lib.hid fun W h => hT.below h
  clear hS hS' hU hU' HKp hT
  generalize firstZ [setF xs, setF ys] = E at *
  go_enter Tryz.func27, Tryz.ntmps27
  go_wp2_with fail
  refine HC.out.mono ?_
  rintro e w1 ⟨A2, cap2, zs, rfl, hS2, h1, h2, hlz, b1⟩
  clear HC
  by_cases hE0 : E = 0
  · have b0 : (E == 0) = true := by simp [hE0]
    have hE1 := Lib.hid hE0
    obtain ⟨hRx, hRy, hz⟩ := h1 hE0
    clear hE0
    have HO := Lib.hid (setOf_any A2 zs.length cap2 zs w1 hS2 (by omega) hz.2.2 (hT1.out _ b1) (hN.out hRx hRy zs hz))
    have hfin := Lib.hid (show CmbS k xs ys (pfsOf (zs.map rowA)) from ⟨hRx, hRy, zs, hz, rfl⟩)
    clear h1 h2 hS2 hRx hRy hz hlz
    generalize zs.length = m at *
    go_wp2_with fail
    refine HO.out.mono ?_
    rintro e w6 ⟨⟨v, rfl, ho⟩, hv1⟩
    have hz5 := b1.size
    have b6 := b1.trans (hv1.mono hz5)
    clear HO hv1
    go_wp2_with fail
    go_ret2
    exact ⟨v, _, by rw [hE1.out]; rfl, OwnE.mono ho hz5, fun _ => hfin.out, fun h => absurd hE1.out h, b6⟩
  · have b0 : (E == 0) = false := by simp [hE0]
    have hE1 := Lib.hid hE0
    clear hE0 h1 h2 hS2
    generalize zs.length = m at *
    go_wp2_with fail
    go_ret2
    exact ⟨_, [], rfl, OwnE.nil _ _, fun h => absurd h hE1.out, fun _ => rfl, b1⟩

theorem kp_union : Kp 29 (fun p q => p || q) where
  run := fun p q W => by
    cases p <;> cases q
    all_goals
      go_enter Tryz.func29, Tryz.ntmps29
      go_wp2_with fail
      go_ret
      exact ⟨rfl, Below.refl _ _⟩
  enter := enters_of Tryz.func29 (by kernel_rfl) rfl

theorem kp_both : Kp 35 (fun p q => p && q) where
  run := fun p q W => by
    cases p <;> cases q
    all_goals
      go_enter Tryz.func35, Tryz.ntmps35
      go_wp2_with fail
      go_ret
      exact ⟨rfl, Below.refl _ _⟩
  enter := enters_of Tryz.func35 (by kernel_rfl) rfl

theorem kp_without : Kp 36 (fun p q => p && !q) where
  run := fun p q W => by
    cases p <;> cases q
    all_goals
      go_enter Tryz.func36, Tryz.ntmps36
      go_wp2_with fail
      go_ret
      exact ⟨rfl, Below.refl _ _⟩
  enter := enters_of Tryz.func36 (by kernel_rfl) rfl

theorem kp_rest : Kp 28 (fun p q => !p) where
  run := fun p q W => by
    cases p <;> cases q
    all_goals
      go_enter Tryz.func28, Tryz.ntmps28
      go_wp2_with fail
      go_ret
      exact ⟨rfl, Below.refl _ _⟩
  enter := enters_of Tryz.func28 (by kernel_rfl) rfl

theorem union_any (A A' : Option Addr) (n cap n' cap' : Nat) (xs ys : List Pf) (w : World) (hS : SlE ePf w A n cap xs) (hS' : SlE ePf w A' n' cap' ys) (hn : n ≤ 1000) (hn' : n' ≤ 1000) (hU : ∀ p ∈ xs, p.U) (hU' : ∀ p ∈ ys, p.U) (hT : Tz w)
    (hN : (∀ p ∈ xs, p.R) → (∀ p ∈ ys, p.R) → ∀ zs, Tells zs (CmbP (fun p q => p || q) xs ys) → (pfsOf (zs.map rowA)).length ≤ 1000) :
    Calls Tryz.prog 10 #[.slice A n cap, .slice A' n' cap'] w (GivesS (firstZ [setF xs, setF ys]) (CmbS (fun p q => p || q) xs ys) w) := by
  have H := Lib.hid (combined_any _ _ kp_union A A' n cap n' cap' xs ys w hS hS' hn hn' hU hU' hT hN)
  clear hS hS' hU hU' hN hT
  generalize firstZ [setF xs, setF ys] = E at *
  go_enter Tryz.func10, Tryz.ntmps10
  go_wp2_with fail
  refine H.out.mono ?_
  rintro e w1 ⟨v, ps, rfl, ho, h1, h2, hb⟩
  replace h1 := Lib.hid h1
  replace h2 := Lib.hid h2
  clear H
  go_wp2_with fail
  go_ret2
  exact ⟨v, ps, rfl, ho, h1.out, h2.out, hb⟩

theorem both_any (A A' : Option Addr) (n cap n' cap' : Nat) (xs ys : List Pf) (w : World) (hS : SlE ePf w A n cap xs) (hS' : SlE ePf w A' n' cap' ys) (hn : n ≤ 1000) (hn' : n' ≤ 1000) (hU : ∀ p ∈ xs, p.U) (hU' : ∀ p ∈ ys, p.U) (hT : Tz w)
    (hN : (∀ p ∈ xs, p.R) → (∀ p ∈ ys, p.R) → ∀ zs, Tells zs (CmbP (fun p q => p && q) xs ys) → (pfsOf (zs.map rowA)).length ≤ 1000) :
    Calls Tryz.prog 12 #[.slice A n cap, .slice A' n' cap'] w (GivesS (firstZ [setF xs, setF ys]) (CmbS (fun p q => p && q) xs ys) w) := by
  have H := Lib.hid (combined_any _ _ kp_both A A' n cap n' cap' xs ys w hS hS' hn hn' hU hU' hT hN)
  clear hS hS' hU hU' hN hT
  generalize firstZ [setF xs, setF ys] = E at *
  go_enter Tryz.func12, Tryz.ntmps12
  go_wp2_with fail
  refine H.out.mono ?_
  rintro e w1 ⟨v, ps, rfl, ho, h1, h2, hb⟩
  replace h1 := Lib.hid h1
  replace h2 := Lib.hid h2
  clear H
  go_wp2_with fail
  go_ret2
  exact ⟨v, ps, rfl, ho, h1.out, h2.out, hb⟩

theorem without_any (A A' : Option Addr) (n cap n' cap' : Nat) (xs ys : List Pf) (w : World) (hS : SlE ePf w A n cap xs) (hS' : SlE ePf w A' n' cap' ys) (hn : n ≤ 1000) (hn' : n' ≤ 1000) (hU : ∀ p ∈ xs, p.U) (hU' : ∀ p ∈ ys, p.U) (hT : Tz w)
    (hN : (∀ p ∈ xs, p.R) → (∀ p ∈ ys, p.R) → ∀ zs, Tells zs (CmbP (fun p q => p && !q) xs ys) → (pfsOf (zs.map rowA)).length ≤ 1000) :
    Calls Tryz.prog 13 #[.slice A n cap, .slice A' n' cap'] w (GivesS (firstZ [setF xs, setF ys]) (CmbS (fun p q => p && !q) xs ys) w) := by
  have H := Lib.hid (combined_any _ _ kp_without A A' n cap n' cap' xs ys w hS hS' hn hn' hU hU' hT hN)
  clear hS hS' hU hU' hN hT
  generalize firstZ [setF xs, setF ys] = E at *
  go_enter Tryz.func13, Tryz.ntmps13
  go_wp2_with fail
  refine H.out.mono ?_
  rintro e w1 ⟨v, ps, rfl, ho, h1, h2, hb⟩
  replace h1 := Lib.hid h1
  replace h2 := Lib.hid h2
  clear H
  go_wp2_with fail
  go_ret2
  exact ⟨v, ps, rfl, ho, h1.out, h2.out, hb⟩

theorem rest_any (A : Option Addr) (n cap : Nat) (xs : List Pf) (w : World) (hS : SlE ePf w A n cap xs) (hn : n ≤ 1000) (hU : ∀ p ∈ xs, p.U) (hT : Tz w)
    (hN : (∀ p ∈ xs, p.R) → ∀ zs, Tells zs (CmbP (fun p q => !p) xs []) → (pfsOf (zs.map rowA)).length ≤ 1000) :
    Calls Tryz.prog 9 #[.slice A n cap] w (GivesS (firstZ [setF xs, setF []]) (CmbS (fun p q => !p) xs []) w) := by
  have H := Lib.hid (combined_any _ _ kp_rest A none n cap 0 0 xs [] w hS (SlE.nil _) hn (by omega) hU (fun p hp => by cases hp) hT (fun a _ => hN a))
  clear hS hU hN hT
  generalize firstZ [setF xs, setF []] = E at *
  go_enter Tryz.func9, Tryz.ntmps9
  go_wp2_with fail
  refine H.out.mono ?_
  rintro e w1 ⟨v, ps, rfl, ho, h1, h2, hb⟩
  replace h1 := Lib.hid h1
  replace h2 := Lib.hid h2
  clear H
  go_wp2_with fail
  go_ret2
  exact ⟨v, ps, rfl, ho, h1.out, h2.out, hb⟩

def Stg (zs : List (Ad × Ad)) (k : Nat) (out : List (Ad × Ad)) : Prop :=
  if k = 0 then out = [] else out.Pairwise (fun x y => x.2.n + 1 < y.1.n) ∧ (∀ y ∈ out, RgR y ∧ y.2.n ≤ topN (decide (k = 2))) ∧ (∀ m, InA out m ↔ Val m ∧ m ≤ topN (decide (k = 2)) ∧ ¬ InA zs m) ∧ out.length ≤ k * (zs.length + 1)
theorem Stg.next {zs : List (Ad × Ad)} (hR : ∀ z ∈ zs, RgR z) (hp : zs.Pairwise (fun x y => x.2.n + 1 < y.1.n)) {k : Nat} (hk : k < 2) {a : Nat} {dn : Bool} {out : List (Ad × Ad)} (h : GapI zs (decide (k = 1)) zs.length a dn out (k * (zs.length + 1))) :
    Stg zs (k + 1) (if dn then out else out ++ [(adOf a, adOf (topN (decide (k = 1))))]) := by
  obtain ⟨out', rfl, h1, h2, h3, h4⟩ := h.ends hR hp
  have e : decide (k + 1 = 2) = decide (k = 1) := by rw [decide_eq_decide]; omega
  unfold Stg
  rw [if_neg (by omega), e]
  exact ⟨h1, h2, h3, by rw [Nat.succ_mul]; omega⟩
theorem Stg.done {zs out : List (Ad × Ad)} (h : Stg zs 2 out) : Tells out (fun m => Val m ∧ ¬ InA zs m) ∧ out.length ≤ 2 * (zs.length + 1) :=
  ⟨gaps_told h.1 h.2.1 h.2.2.1, h.2.2.2⟩




theorem inA_rgP {ps : List Pf} (hR : ∀ p ∈ ps, p.R) (m : Nat) : InA (ps.map rgP) m ↔ ∃ p ∈ ps, InB (blk p) m := by
  unfold InA InB
  constructor
  · rintro ⟨x, hx, h1, h2⟩
    obtain ⟨p, hp, rfl⟩ := List.mem_map.1 hx
    have hn := rgP_n (hR p hp)
    have hpos := Nat.two_pow_pos (freeB p)
    have h1' : p.1.n ≤ m := h1
    exact ⟨p, hp, h1', by show m < p.1.n + 2 ^ freeB p; omega⟩
  · rintro ⟨p, hp, h1, h2⟩
    have hn := rgP_n (hR p hp)
    have hpos := Nat.two_pow_pos (freeB p)
    have h2' : m < p.1.n + 2 ^ freeB p := h2
    exact ⟨rgP p, List.mem_map_of_mem hp, h1, by omega⟩
theorem pfs_blocks {zs : List (Ad × Ad)} {P : Nat → Prop} (h : Tells zs P) (es qs : List Bk) (hes : AlL es) (hqs : AlL qs) (hl : es.length + qs.length * 128 + 2 ≤ 1000)
    (hk : ∀ m m', P m → Val m' → ¬ P m' → (∃ a ∈ es, InB a m ∧ ¬ InB a m') ∨ (∃ q ∈ qs, ¬ InB q m ∧ InB q m')) : (pfsOf (zs.map rowA)).length ≤ 1000 := by
  unfold pfsOf
  rw [List.length_map]
  exact Nat.le_trans (blocks_le h es qs hes hqs hk) hl
theorem alL_app {l m : List Bk} (h : AlL l) (h' : AlL m) : AlL (l ++ m) := fun b hb => by
  rcases List.mem_append.1 hb with k | k
  · exact h b k
  · exact h' b k
theorem setF_nil : setF [] = 0 := by
  unfold setF
  have e : scanF none [] = 0 := rfl
  rw [if_neg (fun h => h e), if_pos (by trivial)]

def inQ (p : Pf) (m : Nat) : Bool := decide ((blk p).1 ≤ m ∧ m < (blk p).1 + 2 ^ (blk p).2)
def inS (ps : List Pf) (m : Nat) : Bool := ps.any fun p => inQ p m

theorem Ad.R.u {a : Ad} (h : a.R) : a.U := h.1
theorem scan_good : ∀ (ps : List Pf) (o : Option Pf), (∀ p ∈ ps, Pf.R p) → ps.Pairwise (fun p q => p.1.n < q.1.n) → (∀ q, o = some q → ∀ p ∈ ps, q.1.n < p.1.n) → scanF o ps = 0
  | [], _, _, _, _ => by unfold scanF; rfl
  | p :: r, o, hR, hs, ho => by
    rw [List.pairwise_cons] at hs
    have hp := hR p List.mem_cons_self
    have ih := scan_good r (some p) (fun x hx => hR x (List.mem_cons_of_mem _ hx)) hs.2 (fun q hq x hx => by cases hq; exact hs.1 x hx)
    cases o with
    | none =>
      unfold scanF
      rw [if_neg (by rw [(pfE_iff hp.1.u).2 hp]; decide), if_neg (by simp)]
      exact ih
    | some q =>
      have := ho q rfl p List.mem_cons_self
      unfold scanF
      rw [if_neg (by rw [(pfE_iff hp.1.u).2 hp]; decide), if_neg (by rw [decide_eq_true_eq]; omega)]
      exact ih
theorem cuts_mem (l : List (Nat × Nat)) (h : ∀ x ∈ l, Row x) (m : Nat) : (∃ b ∈ cuts l, InB b m) ↔ ∃ x ∈ l, x.1 ≤ m ∧ m < x.2 := by
  have key : ∀ x ∈ l, ((∃ b ∈ cutN x.1 x.2, InB b m) ↔ x.1 ≤ m ∧ m < x.2) := fun x hx => by
    have := cut_pts x.2 (x.2 - x.1) x.1 (Nat.le_refl _) (h x hx).2.small (m : Int)
    rw [inP_ivB] at this
    constructor
    · rintro ⟨b, hb, h1, h2⟩
      have := this.1 ⟨b, hb, by omega, by omega⟩
      omega
    · intro hm
      obtain ⟨b, hb, h1, h2⟩ := this.2 ⟨by omega, by omega⟩
      exact ⟨b, hb, by omega, by omega⟩
  unfold cuts
  constructor
  · rintro ⟨b, hb, hm⟩
    obtain ⟨x, hx, hbx⟩ := List.mem_flatMap.1 hb
    exact ⟨x, hx, (key x hx).1 ⟨b, hbx, hm⟩⟩
  · rintro ⟨x, hx, hm⟩
    obtain ⟨b, hb, h1⟩ := (key x hx).2 hm
    exact ⟨b, List.mem_flatMap.2 ⟨x, hx, hb⟩, h1⟩
theorem pfs_good {ys : List (Ad × Ad)} {P : Nat → Prop} (h : Tells ys P) : setF (pfsOf (ys.map rowA)) = 0 ∧ (∀ p ∈ pfsOf (ys.map rowA), Pf.R p) ∧ ∀ m, InA ((pfsOf (ys.map rowA)).map rgP) m ↔ P m := by
  have hrow := rows_R h.2.2
  have hR := pfsOf_R h.2.2
  have hblk : (pfsOf (ys.map rowA)).map blk = cuts (ys.map rowA) := map_blk_pfOf _ (fun b hb => (cuts_ok hrow b hb).2)
  have hL : LeastL ((pfsOf (ys.map rowA)).map blk) := by rw [hblk]; exact cuts_least _ hrow (pairs_rowA.2 h.1)
  refine ⟨?_, hR, fun m => ?_⟩
  · have hp := least_pairs _ hL
    rw [List.pairwise_map] at hp
    have hs := scan_good _ none hR (hp.imp fun {p q} h => by
      have := Nat.two_pow_pos (blk p).2
      have h1 : p.1.n = (blk p).1 := rfl
      have h2 : q.1.n = (blk q).1 := rfl
      omega) (by simp)
    unfold setF
    rw [if_neg (by rw [hs]; exact fun k => k rfl), if_pos hL]
  · rw [inA_rgP hR, ← h.2.1 m]
    have e : (∃ p ∈ pfsOf (ys.map rowA), InB (blk p) m) ↔ ∃ b ∈ cuts (ys.map rowA), InB b m := by
      rw [← hblk]
      constructor
      · rintro ⟨p, hp, hm⟩; exact ⟨_, List.mem_map_of_mem hp, hm⟩
      · rintro ⟨b, hb, hm⟩
        obtain ⟨p, hp, rfl⟩ := List.mem_map.1 hb
        exact ⟨p, hp, hm⟩
    rw [e, cuts_mem _ hrow]
    unfold InA
    constructor
    · rintro ⟨x, hx, h1, h2⟩
      obtain ⟨y, hy, rfl⟩ := List.mem_map.1 hx
      exact ⟨y, hy, h1, by have : m < y.2.n + 1 := h2; omega⟩
    · rintro ⟨y, hy, h1, h2⟩
      exact ⟨rowA y, List.mem_map_of_mem hy, h1, by show m < y.2.n + 1; omega⟩
theorem inS_iff {ps : List Pf} (hR : ∀ p ∈ ps, Pf.R p) (m : Nat) : inS ps m = true ↔ InA (ps.map rgP) m := by
  rw [inA_rgP hR]
  unfold inS
  rw [List.any_eq_true]
  constructor
  · rintro ⟨p, hp, h⟩
    unfold inQ at h
    have h' := of_decide_eq_true h
    exact ⟨p, hp, h'⟩
  · rintro ⟨p, hp, h⟩
    have h' : (blk p).1 ≤ m ∧ m < (blk p).1 + 2 ^ (blk p).2 := h
    exact ⟨p, hp, by unfold inQ; exact decide_eq_true h'⟩

theorem setF_lst {ps : List Pf} (h : setF ps = 0) : LeastL (ps.map blk) := by
  unfold setF at h
  split at h
  · rename_i k; exact absurd h k
  · split at h
    · assumption
    · cases h
theorem inS_has {ps : List Pf} (hR : ∀ p ∈ ps, p.R) (m : Nat) : inS ps m = hasB (ps.map rgP) m := by
  rw [Bool.eq_iff_iff, inS_iff hR, hasB_iff]
theorem cmb_good {k : Bool → Bool → Bool} {xs ys ps : List Pf} (h : CmbS k xs ys ps) : setF ps = 0 ∧ (∀ p ∈ ps, p.R) ∧ ∀ m, Val m → inS ps m = k (inS xs m) (inS ys m) := by
  obtain ⟨hx, hy, zs, hz, rfl⟩ := h
  obtain ⟨g1, g2, g3⟩ := pfs_good hz
  refine ⟨g1, g2, fun m hv => ?_⟩
  rw [Bool.eq_iff_iff, inS_iff g2, g3 m, inS_has hx, inS_has hy]
  unfold CmbP
  exact ⟨fun h => h.2, fun h => ⟨hv, h⟩⟩
def TlS (ps : List Pf) : Prop := ∃ zs, Tells zs (InA (ps.map rgP)) ∧ ps = pfsOf (zs.map rowA)
theorem tells_tl {ys : List (Ad × Ad)} {P : Nat → Prop} (h : Tells ys P) : TlS (pfsOf (ys.map rowA)) := ⟨ys, h.iff fun m => ((pfs_good h).2.2 m).symm, rfl⟩
theorem cmb_tl {k : Bool → Bool → Bool} {xs ys ps : List Pf} (h : CmbS k xs ys ps) : TlS ps := by
  obtain ⟨_, _, zs, hz, rfl⟩ := h
  exact tells_tl hz
set_option maxHeartbeats 2000000 in
theorem rightSetG_any (w : World) (b R : Nat) (hs : Str w b (R + 26)) :
    Calls Tryz.prog 5 #[.pointer (some ⟨b, 0, none⟩)] w (PfsPost (fun ps => ps.length ≤ 5 ∧ (∀ p ∈ ps, p.R) ∧ setF ps = 0 ∧ TlS ps) b R w) := by
  have hbw := hs.lt
  go_enter Tryz.func5, Tryz.ntmps5
  go_wp2_with fail
  refine (range_any 0 5 w b (R + 25) (by decide) (by decide) (by decide) hs).mono ?_
  rintro e w1 ⟨r, ⟨hr1, hr2⟩, rfl, hs1, hg1⟩
  obtain ⟨m, rfl⟩ := Int.eq_ofNat_of_zero_le hr1
  have hm : m ≤ 5 := by omega
  clear hr1 hr2 hs
  go_wp2_with fail
  refine (prefixes_any m w1 b R (by omega) (hs1.le (by omega))).mono ?_
  rintro e w2 ⟨ps, v2, ⟨hp1, hp2⟩, rfl, ho2, hs2, hg2⟩
  obtain ⟨A2, c2, rfl, hS2⟩ := ho2.sl
  have HL := Lib.hid (leastOf_any A2 _ c2 ps w2 hS2 (by omega) hp2)
  rw [hp1] at HL ⊢
  have hp1' := Lib.hid hp1
  clear hp1
  replace hp2 := Lib.hid hp2
  have hg := gb_trans hg1 hg2
  clear ho2 hS2 hs1 hg1 hg2
  go_wp2_with fail
  refine HL.out.mono ?_
  rintro e w3 ⟨ys, hy1, hy2, ⟨v3, rfl, ho3⟩, hb3⟩
  have hfin := Lib.hid (show (pfsOf (ys.map rowA)).length ≤ 5 ∧ (∀ p ∈ pfsOf (ys.map rowA), p.R) ∧ setF (pfsOf (ys.map rowA)) = 0 ∧ TlS (pfsOf (ys.map rowA)) from ⟨by have := (leastP_same hp2.out hy1).2; have := hp1'.out; omega, pfsOf_R hy1.2.2, (pfs_good hy1.tells).1, tells_tl hy1.tells⟩)
  have hs3 := hs2.below hb3
  have hz := hg.size
  replace hg := gb_below hg hb3
  clear HL hy1 hb3 hs2
  go_wp2_with fail
  go_ret
  exact ⟨_, v3, hfin.out, rfl, ho3.mono hz, hs3, hg⟩

structure Dv (h l U N M Q R V Q0 R0 q r : Int) : Prop where
  bO : bits .or .u64 (h * 1152921504606846976) (l / 16) = U
  bN : IntKind.u64.wrap (l * 1152921504606846976) = N
  bM : N / 4294967296 = M
  bZ : bits .and .u64 N 4294967295 = 0
  bQ : IntKind.u64.wrap (U.tdiv 2684354560) = Q
  c1 : IntKind.u64.wrap (Q * 2684354560) = Q * 2684354560
  c2 : IntKind.u64.wrap (U - Q * 2684354560) = R
  g1 : ¬ 4294967296 ≤ Q
  c3 : IntKind.u64.wrap (4294967296 * R) = 4294967296 * R
  c4 : IntKind.u64.wrap (4294967296 * R + M) = 4294967296 * R + M
  g2 : ¬ 4294967296 * R + M < 0
  c5 : IntKind.u64.wrap (IntKind.u64.wrap (IntKind.u64.wrap (U * 4294967296) + M) - IntKind.u64.wrap (Q * 11529215046068469760)) = V
  bV : IntKind.u64.wrap (V.tdiv 2684354560) = Q0
  c6 : IntKind.u64.wrap (Q0 * 2684354560) = Q0 * 2684354560
  c7 : IntKind.u64.wrap (V - Q0 * 2684354560) = R0
  g3 : ¬ 4294967296 ≤ Q0
  c8 : IntKind.u64.wrap (4294967296 * R0) = 4294967296 * R0
  g4 : ¬ 4294967296 * R0 < 0
  c9 : IntKind.u64.wrap (Q * 4294967296) = Q * 4294967296
  c10 : IntKind.u64.wrap (Q * 4294967296 + Q0) = q
  c11 : IntKind.u64.wrap (IntKind.u64.wrap (IntKind.u64.wrap (V * 4294967296)) - IntKind.u64.wrap (Q0 * 11529215046068469760)) = 4294967296 * R0
  c12 : 4294967296 * R0 / 1152921504606846976 = r
  eq : q = (h * 18446744073709551616 + l) / 10
  er : r = (h * 18446744073709551616 + l) % 10
theorem dv_is (h l : Int) (h0 : 0 ≤ h) (h1 : h < 10) (l0 : 0 ≤ l) (l1 : l < 18446744073709551616) : ∃ U N M Q R V Q0 R0 q r, Dv h l U N M Q R V Q0 R0 q r := by
  obtain ⟨U, hU⟩ : ∃ U : Int, U = h * 1152921504606846976 + l / 16 := ⟨_, rfl⟩
  obtain ⟨N, hN⟩ : ∃ N : Int, N = l % 16 * 1152921504606846976 := ⟨_, rfl⟩
  obtain ⟨M, hM⟩ : ∃ M : Int, M = l % 16 * 268435456 := ⟨_, rfl⟩
  obtain ⟨Q, hQ⟩ : ∃ Q : Int, Q = U / 2684354560 := ⟨_, rfl⟩
  obtain ⟨R, hR⟩ : ∃ R : Int, R = U % 2684354560 := ⟨_, rfl⟩
  obtain ⟨V, hV⟩ : ∃ V : Int, V = R * 4294967296 + M := ⟨_, rfl⟩
  obtain ⟨Q0, hQ0⟩ : ∃ Q : Int, Q = V / 2684354560 := ⟨_, rfl⟩
  obtain ⟨R0, hR0⟩ : ∃ R : Int, R = V % 2684354560 := ⟨_, rfl⟩
  have a1 : 0 ≤ R ∧ R < 2684354560 := by omega
  have a2 : 0 ≤ Q ∧ Q < 4294967296 := by omega
  have a3 : 0 ≤ M ∧ M < 4294967296 := by omega
  have a4 : 0 ≤ V ∧ V < 11529215046068469760 := by omega
  have a5 : 0 ≤ R0 ∧ R0 < 2684354560 := by omega
  have a6 : 0 ≤ Q0 ∧ Q0 < 4294967296 := by omega
  have a7 : 0 ≤ U ∧ U < 11529215046068469760 := by omega
  have a8 : Q * 2684354560 + R = U := by omega
  have a9 : Q0 * 2684354560 + R0 = V := by omega
  have b0 : N = M * 4294967296 := by omega
  have key : (h * 18446744073709551616 + l) * 268435456 = (Q * 4294967296 + Q0) * 2684354560 + R0 := by omega
  refine ⟨U, N, M, Q, R, V, Q0, R0, Q * 4294967296 + Q0, R0 / 268435456, ?_, ?_, ?_, ?_, ?_, ?_, ?_, by omega, ?_, ?_, by omega, ?_, ?_, ?_, ?_, by omega, ?_, by omega, ?_, ?_, ?_, by omega, by omega, by omega⟩
  · obtain ⟨H, rfl⟩ := Int.eq_ofNat_of_zero_le h0
    obtain ⟨L, rfl⟩ := Int.eq_ofNat_of_zero_le l0
    have hb : L / 16 < 2 ^ 60 := by omega
    have e := u64_or_nat (H * 1152921504606846976) (L / 16) (by omega) (by omega)
    have e2 := Nat.two_pow_add_eq_or_of_lt hb H
    rw [show (2 : Nat) ^ 60 * H = H * 1152921504606846976 by omega] at e2
    rw [← e2] at e
    rw [hU]
    refine Eq.trans ?_ (e.trans ?_)
    · congr 1
    · omega
  · rw [IntKind.wrap_u64, hN]; omega
  · omega
  · have hl : 0 ≤ l % 16 ∧ l % 16 < 16 := by omega
    rw [hN]
    generalize l % 16 = z at hl
    obtain ⟨Z, rfl⟩ := Int.eq_ofNat_of_zero_le hl.1
    have : ∀ Z : Nat, Z < 16 → bits .and .u64 ((Z : Int) * 1152921504606846976) 4294967295 = 0 := by decide
    exact this Z (by omega)
  all_goals first | (simp only [IntKind.wrap_u64]; omega) | (rw [Int.tdiv_eq_ediv_of_nonneg (by omega), IntKind.wrap_u64]; omega)

set_option maxHeartbeats 4000000 in
theorem div10_any (h l : Int) (w : World) (h0 : 0 ≤ h) (h1 : h < 10) (l0 : 0 ≤ l) (l1 : l < 18446744073709551616) :
    Calls Tryz.prog 144 #[.int .u64 h, .int .u64 l, .int .u64 10] w fun e w' => e = .returned (.tuple #[.int .u64 ((h * 18446744073709551616 + l) / 10), .int .u64 ((h * 18446744073709551616 + l) % 10)]) ∧ Below w.heap.size w w' := by
  by_cases hz : h = 0
  · subst hz
    obtain ⟨q, hq⟩ : ∃ q : Int, q = (0 * 18446744073709551616 + l) / 10 := ⟨_, rfl⟩
    obtain ⟨r, hr⟩ : ∃ q : Int, q = (0 * 18446744073709551616 + l) % 10 := ⟨_, rfl⟩
    rw [← hq, ← hr]
    have t1 : IntKind.u64.wrap (l.tdiv 10) = q := by rw [Int.tdiv_eq_ediv_of_nonneg l0, IntKind.wrap_u64, hq]; omega
    have t2 : l.tmod 10 = r := by rw [Int.tmod_eq_emod_of_nonneg l0, hr]; omega
    clear hq hr l0 l1 h0 h1
    go_enter Tryz.func144, Tryz.ntmps144
    go_upto_region 6 with fail
    refine wx_begin (none) [] (by kernel_rfl) (fun u0 hb0' hz0' => ?_)
    have hbw := hb0'
    clear hb0' hz0'
    refine wx_pureZ 0 (some 28) (v := ?_) ?_ ?_; rotate_left; · (intro u; go_simp; try with_reducible rfl)
    try simp only [Act.put, gzD, gzE, gzF]
    refine wx_pureZ 1 (some 29) (v := ?_) ?_ ?_; rotate_left; · (intro u; go_simp; try with_reducible rfl)
    try simp only [Act.put, gzD, gzE, gzF]
    refine wx_pureZ 2 (some 30) (v := ?_) ?_ ?_; rotate_left; · (intro u; go_simp; try with_reducible rfl)
    try simp only [Act.put, gzD, gzE, gzF]
    refine wx_pureZ 3 (some 31) (v := ?_) ?_ ?_; rotate_left; · (intro u; go_simp; try with_reducible rfl)
    try simp only [Act.put, gzD, gzE, gzF]
    refine wx_pureZ 4 (some 32) (v := ?_) ?_ ?_; rotate_left; · (intro u; go_simp; try with_reducible rfl)
    try simp only [Act.put, gzD, gzE, gzF]
    refine wx_pureZ 5 (some 33) (v := ?_) ?_ ?_; rotate_left; · (intro u; go_simp; try with_reducible rfl)
    try simp only [Act.put, gzD, gzE, gzF]
    refine wx_pureZ 6 (some 6) (v := ?_) ?_ ?_; rotate_left; · (intro u; go_simp; try with_reducible rfl)
    try simp only [Act.put, gzD, gzE, gzF]
    refine wx_pureZ 7 (some 7) (v := ?_) ?_ ?_; rotate_left; · (intro u; go_simp; try with_reducible rfl)
    try simp only [Act.put, gzD, gzE, gzF]
    refine wx_done (by kernel_rfl) ?_ _
    skip
    go_wp2_with fail
    go_ret2
    exact ⟨rfl, hbw⟩
  · have b0 : (h == 0) = false := by simp [hz]
    have b1 : ¬ (10 : Int) ≤ h := by omega
    have HL := fun w' => Lib.hid (Tryz.bits_LeadingZeros64 10 w' (by decide) (by decide))
    have e60 : (64 - (Lib.bitLen (10 : Int).toNat : Int)) = 60 := by decide
    rw [e60] at HL
    clear e60
    obtain ⟨U, N, M, Q, R, V, Q0, R0, q, r, H⟩ := dv_is h l h0 h1 l0 l1
    rw [← H.eq, ← H.er]
    obtain ⟨bO, bN, bM, bZ, bQ, c1, c2, g1, c3, c4, g2, c5, bV, c6, c7, g3, c8, g4, c9, c10, c11, c12, x1, x2⟩ := H
    clear x1 x2
    have bA : bits .and .u64 11529215046068469760 4294967295 = 0 := by decide
    have bW : IntKind.u64.wrap (h * 1152921504606846976) = h * 1152921504606846976 := by rw [IntKind.wrap_u64]; omega
    clear h0 h1 l0 l1 hz
    go_enter Tryz.func144, Tryz.ntmps144
    go_wp2_with fail
    refine (HL _).out.mono ?_
    rintro e w1 ⟨rfl, rfl⟩
    clear HL
    go_wp2_with fail
    refine wp_loop_rounds 2 ?_
    rw [rounds_succ]
    go_wp2_with fail
    refine wp_loop_rounds 2 ?_
    rw [rounds_succ]
    go_wp2_with fail
    go_ret2
    exact ⟨rfl, Below.refl _ _⟩

def cntC (C : Nat) : List Value := [.int .u64 ((C % 2 ^ 64 : Nat) : Int), .int .u64 ((C / 2 ^ 64 % 2 ^ 64 : Nat) : Int), .int .u64 ((C / 2 ^ 128 : Nat) : Int)]
abbrev cntA (C : Nat) : Value := .agg (cntC C).toArray
theorem rowCnt : RowT 125 3 := ⟨⟨_, Tryz.underlying125, rfl⟩, by kernel_rfl⟩

set_option maxHeartbeats 4000000 in
theorem plus_core0 (d0 d1 d2 a r0 c1 r1 c2 r2 c3 p m : Int) (w : World)
    (hp : IntKind.i64.wrap (p.tdiv 64) = 0) (hm : p.tmod 64 = m) (hsh : Op.shift .shl .u64 1 .i64 m = pure (.int .u64 a))
    (A0 : ∀ w, (callFunc 143 #[.int .u64 d0, .int .u64 a, .int .u64 0]).run Tryz.prog w = .ok (.value (.tuple #[.int .u64 r0, .int .u64 c1])) w)
    (A1 : ∀ w, (callFunc 143 #[.int .u64 d1, .int .u64 0, .int .u64 c1]).run Tryz.prog w = .ok (.value (.tuple #[.int .u64 r1, .int .u64 c2])) w)
    (A2 : ∀ w, (callFunc 143 #[.int .u64 d2, .int .u64 0, .int .u64 c2]).run Tryz.prog w = .ok (.value (.tuple #[.int .u64 r2, .int .u64 c3])) w) :
    Calls Tryz.prog 72 #[.agg #[.int .u64 d0, .int .u64 d1, .int .u64 d2], .int .i64 p] w (GivesV (.agg #[.int .u64 r0, .int .u64 r1, .int .u64 r2]) w) := by
  go_enter Tryz.func72, Tryz.ntmps72
  go_wp2_with fail
  refine wp_loop_rounds 4 ?_
  rw [rounds_succ]
  go_wp2_with fail
  rw [rounds_succ]
  go_wp2_with fail
  rw [rounds_succ]
  go_wp2_with fail
  rw [rounds_succ]
  go_wp2_with fail
  obtain ⟨_, g2⟩ := two_new w [.int .u64 r0, .int .u64 r1, .int .u64 r2] [.int .u64 r0, .int .u64 r1, .int .u64 r2] 125 125
  refine bodyPost_ret (v := .agg #[.int .u64 r0, .int .u64 r1, .int .u64 r2]) ?_ rfl ⟨rfl, below_two w _ _⟩
  exact results_row rowCnt rfl _ _ _ _ _ rfl g2 rfl

set_option maxHeartbeats 4000000 in
theorem plus_core1 (d0 d1 d2 a r0 c1 r1 c2 r2 c3 p m : Int) (w : World)
    (hp : IntKind.i64.wrap (p.tdiv 64) = 1) (hm : p.tmod 64 = m) (hsh : Op.shift .shl .u64 1 .i64 m = pure (.int .u64 a))
    (A0 : ∀ w, (callFunc 143 #[.int .u64 d0, .int .u64 0, .int .u64 0]).run Tryz.prog w = .ok (.value (.tuple #[.int .u64 r0, .int .u64 c1])) w)
    (A1 : ∀ w, (callFunc 143 #[.int .u64 d1, .int .u64 a, .int .u64 c1]).run Tryz.prog w = .ok (.value (.tuple #[.int .u64 r1, .int .u64 c2])) w)
    (A2 : ∀ w, (callFunc 143 #[.int .u64 d2, .int .u64 0, .int .u64 c2]).run Tryz.prog w = .ok (.value (.tuple #[.int .u64 r2, .int .u64 c3])) w) :
    Calls Tryz.prog 72 #[.agg #[.int .u64 d0, .int .u64 d1, .int .u64 d2], .int .i64 p] w (GivesV (.agg #[.int .u64 r0, .int .u64 r1, .int .u64 r2]) w) := by
  go_enter Tryz.func72, Tryz.ntmps72
  go_wp2_with fail
  refine wp_loop_rounds 4 ?_
  rw [rounds_succ]
  go_wp2_with fail
  rw [rounds_succ]
  go_wp2_with fail
  rw [rounds_succ]
  go_wp2_with fail
  rw [rounds_succ]
  go_wp2_with fail
  obtain ⟨_, g2⟩ := two_new w [.int .u64 r0, .int .u64 r1, .int .u64 r2] [.int .u64 r0, .int .u64 r1, .int .u64 r2] 125 125
  refine bodyPost_ret (v := .agg #[.int .u64 r0, .int .u64 r1, .int .u64 r2]) ?_ rfl ⟨rfl, below_two w _ _⟩
  exact results_row rowCnt rfl _ _ _ _ _ rfl g2 rfl

set_option maxHeartbeats 4000000 in
theorem plus_core2 (d0 d1 d2 a r0 c1 r1 c2 r2 c3 p m : Int) (w : World)
    (hp : IntKind.i64.wrap (p.tdiv 64) = 2) (hm : p.tmod 64 = m) (hsh : Op.shift .shl .u64 1 .i64 m = pure (.int .u64 a))
    (A0 : ∀ w, (callFunc 143 #[.int .u64 d0, .int .u64 0, .int .u64 0]).run Tryz.prog w = .ok (.value (.tuple #[.int .u64 r0, .int .u64 c1])) w)
    (A1 : ∀ w, (callFunc 143 #[.int .u64 d1, .int .u64 0, .int .u64 c1]).run Tryz.prog w = .ok (.value (.tuple #[.int .u64 r1, .int .u64 c2])) w)
    (A2 : ∀ w, (callFunc 143 #[.int .u64 d2, .int .u64 a, .int .u64 c2]).run Tryz.prog w = .ok (.value (.tuple #[.int .u64 r2, .int .u64 c3])) w) :
    Calls Tryz.prog 72 #[.agg #[.int .u64 d0, .int .u64 d1, .int .u64 d2], .int .i64 p] w (GivesV (.agg #[.int .u64 r0, .int .u64 r1, .int .u64 r2]) w) := by
  go_enter Tryz.func72, Tryz.ntmps72
  go_wp2_with fail
  refine wp_loop_rounds 4 ?_
  rw [rounds_succ]
  go_wp2_with fail
  rw [rounds_succ]
  go_wp2_with fail
  rw [rounds_succ]
  go_wp2_with fail
  rw [rounds_succ]
  go_wp2_with fail
  obtain ⟨_, g2⟩ := two_new w [.int .u64 r0, .int .u64 r1, .int .u64 r2] [.int .u64 r0, .int .u64 r1, .int .u64 r2] 125 125
  refine bodyPost_ret (v := .agg #[.int .u64 r0, .int .u64 r1, .int .u64 r2]) ?_ rfl ⟨rfl, below_two w _ _⟩
  exact results_row rowCnt rfl _ _ _ _ _ rfl g2 rfl

theorem shl_one (m : Nat) (hm : m < 64) : Op.shift .shl .u64 1 .i64 (m : Int) = pure (.int .u64 ((2 ^ m : Nat) : Int)) := by
  have h1 : (2 : Nat) ^ m < 2 ^ 64 := Nat.pow_lt_pow_right (by decide) hm
  rw [shift_shl_u64 .i64 1 (m : Int) (by omega) (by omega), Int.toNat_natCast, Int.one_mul, IntKind.wrap_u64]
  have e : ((2 : Int) ^ m) = ((2 ^ m : Nat) : Int) := by push_cast; rfl
  rw [e]
  congr 2
  generalize (2 : Nat) ^ m = z at *
  omega
theorem plusC_any (C p : Nat) (w : World) (hp : p ≤ 128) (hC : C + 2 ^ p < 2 ^ 192) : Calls Tryz.prog 72 #[cntA C, .int .i64 p] w (GivesV (cntA (C + 2 ^ p)) w) := by
  obtain ⟨d0, e0⟩ : ∃ d : Int, d = ((C % 2 ^ 64 : Nat) : Int) := ⟨_, rfl⟩
  obtain ⟨d1, e1⟩ : ∃ d : Int, d = ((C / 2 ^ 64 % 2 ^ 64 : Nat) : Int) := ⟨_, rfl⟩
  obtain ⟨d2, e2⟩ : ∃ d : Int, d = ((C / 2 ^ 128 : Nat) : Int) := ⟨_, rfl⟩
  have hin : cntA C = .agg #[.int .u64 d0, .int .u64 d1, .int .u64 d2] := by rw [e0, e1, e2]; rfl
  rw [hin]
  have fin : ∀ (r0 r1 r2 : Int), r0 = (((C + 2 ^ p) % 2 ^ 64 : Nat) : Int) → r1 = (((C + 2 ^ p) / 2 ^ 64 % 2 ^ 64 : Nat) : Int) → r2 = (((C + 2 ^ p) / 2 ^ 128 : Nat) : Int) → cntA (C + 2 ^ p) = .agg #[.int .u64 r0, .int .u64 r1, .int .u64 r2] := by
    rintro r0 r1 r2 rfl rfl rfl; rfl
  have hC2 : C < 2 ^ 192 := Nat.lt_of_le_of_lt (Nat.le_add_right _ _) hC
  rcases Nat.lt_or_ge p 64 with h | h
  · have hA : 2 ^ p < 2 ^ 64 := Nat.pow_lt_pow_right (by decide) h
    have hsh := shl_one p h
    obtain ⟨A, eA⟩ : ∃ A, A = 2 ^ p := ⟨_, rfl⟩
    rw [← eA] at hsh fin hC hA ⊢
    rw [fin ((d0 + (A : Int) + 0) % 18446744073709551616) ((d1 + 0 + ((d0 + (A : Int) + 0) / 18446744073709551616)) % 18446744073709551616) ((d2 + 0 + ((d1 + 0 + ((d0 + (A : Int) + 0) / 18446744073709551616)) / 18446744073709551616)) % 18446744073709551616) (by omega) (by omega) (by omega)]
    exact plus_core0 d0 d1 d2 A _ _ _ _ _ _ p p w (by rw [Int.tdiv_eq_ediv_of_nonneg (by omega), IntKind.wrap_i64]; omega) (by rw [Int.tmod_eq_emod_of_nonneg (by omega)]; omega) hsh
      (fun w => add64_run d0 A 0 (by omega) (by omega) (by omega) (by omega) w) (fun w => add64_run d1 0 _ (by omega) (by omega) (by omega) (by omega) w) (fun w => add64_run d2 0 _ (by omega) (by omega) (by omega) (by omega) w)
  · rcases Nat.lt_or_ge p 128 with h2 | h2
    · have hA : 2 ^ (p - 64) < 2 ^ 64 := Nat.pow_lt_pow_right (by decide) (by omega)
      have hpp : 2 ^ p = 2 ^ (p - 64) * 2 ^ 64 := by rw [← Nat.pow_add]; congr 1; omega
      have hsh := shl_one (p - 64) (by omega)
      rw [hpp] at fin hC ⊢
      obtain ⟨A, eA⟩ : ∃ A, A = 2 ^ (p - 64) := ⟨_, rfl⟩
      rw [← eA] at hsh fin hC hA ⊢
      rw [fin ((d0 + 0 + 0) % 18446744073709551616) ((d1 + (A : Int) + ((d0 + 0 + 0) / 18446744073709551616)) % 18446744073709551616) ((d2 + 0 + ((d1 + (A : Int) + ((d0 + 0 + 0) / 18446744073709551616)) / 18446744073709551616)) % 18446744073709551616) (by omega) (by omega) (by omega)]
      exact plus_core1 d0 d1 d2 A _ _ _ _ _ _ p _ w (by rw [Int.tdiv_eq_ediv_of_nonneg (by omega), IntKind.wrap_i64]; omega) (by rw [Int.tmod_eq_emod_of_nonneg (by omega)]; omega) hsh
        (fun w => add64_run d0 0 0 (by omega) (by omega) (by omega) (by omega) w) (fun w => add64_run d1 A _ (by omega) (by omega) (by omega) (by omega) w) (fun w => add64_run d2 0 _ (by omega) (by omega) (by omega) (by omega) w)
    · have e : p = 128 := by omega
      subst e
      have hsh := shl_one 0 (by omega)
      rw [fin ((d0 + 0 + 0) % 18446744073709551616) ((d1 + 0 + ((d0 + 0 + 0) / 18446744073709551616)) % 18446744073709551616) ((d2 + 1 + ((d1 + 0 + ((d0 + 0 + 0) / 18446744073709551616)) / 18446744073709551616)) % 18446744073709551616) (by omega) (by omega) (by omega)]
      exact plus_core2 d0 d1 d2 1 _ _ _ _ _ _ 128 0 w (by decide) (by decide) hsh
        (fun w => add64_run d0 0 0 (by omega) (by omega) (by omega) (by omega) w) (fun w => add64_run d1 0 _ (by omega) (by omega) (by omega) (by omega) w) (fun w => add64_run d2 1 _ (by omega) (by omega) (by omega) (by omega) w)
end Go.Proofs.YtmgdkefoehlamaaGreatDoor
