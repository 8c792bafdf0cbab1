/- Tables: the stream sorts its entries. -/
import Derived.Test.YtfpcalgkfagjkaaGreatDoorKrTbH
import Derived.Test.YtfpcalgkfagjkaaGreatDoorKrRpH
import Derived.Test.YtfpcalgkfagjkaaGreatDoorKrTbQ
import Derived.Test.YtfpcalgkfagjkaaGreatDoorKrShelf
set_option linter.unusedVariables false
set_option linter.unusedSimpArgs false
set_option maxRecDepth 100000
namespace Go.Proofs.YtfpcalgkfagjkaaGreatDoor
open Go.RowKit

open Go.Shelf
def cmpEn (x y : En) : Int := if cmpN x.p.1.n y.p.1.n = 0 then x.p.2 - y.p.2 else cmpN x.p.1.n y.p.1.n
theorem cm_sub : Cm (fun a b : Int => a - b) := ⟨fun x y => by omega, fun x y z a b => by omega⟩
theorem cm_En : Cm cmpEn := by
  have h := Cm.thn (cm_n.on fun x : En => x.p.1.n) (cm_sub.on fun x : En => x.p.2)
  exact h
def En.R (x : En) : Prop := x.p.R

set_option maxHeartbeats 1000000 in
theorem tblOrder_d (x y : En) (w : World) (hx : En.R x) (hy : En.R y) :
    Calls Tryz.prog 55 #[enA x, enA y] w (GivesD (.int .i64 (cmpEn x y)) w) := by
  have HO := fun w' => Lib.hid (order_d x.p.1 y.p.1 w' hx.1.1 hy.1.1)
  obtain ⟨h1, h2⟩ := two_new w (enC x) (enC y) 37 37
  have hG : Gd w ((w.alloc (.cells (enC x).toArray 37)).alloc (.cells (enC y).toArray 37)) := ((Gd.refl w).alloc _).alloc _
  have l1 := h1.ldAt rowAd 0 (adC x.p.1) [.int .i64 x.p.2, .string ⟨x.nm.toArray⟩] rfl rfl
  have l2 := h2.ldAt rowAd 0 (adC y.p.1) [.int .i64 y.p.2, .string ⟨y.nm.toArray⟩] rfl rfl
  have b1 := hx.2.1
  have b2 : x.p.2 ≤ 128 := by have h := hx.2.2.1; rcases lenZ_le x.p.1.s with k | k <;> omega
  have b3 := hy.2.1
  have b4 : y.p.2 ≤ 128 := by have h := hy.2.2.1; rcases lenZ_le y.p.1.s with k | k <;> omega
  have e1 : IntKind.i64.wrap (x.p.2 - y.p.2) = x.p.2 - y.p.2 := IntWalk.i64_in _ (by omega)
  obtain ⟨R, hR⟩ : ∃ R, R = cmpEn x y := ⟨_, rfl⟩
  rw [← hR]
  unfold cmpEn at hR
  obtain ⟨C, hC⟩ : ∃ C, C = cmpN x.p.1.n y.p.1.n := ⟨_, rfl⟩
  rw [← hC] at HO hR
  replace hR := Lib.hid hR
  clear hC hx hy b1 b2 b3 b4
  go_enter Tryz.func55, Tryz.ntmps55
  go_wp2_with fail
  refine (HO _).out.mono ?_
  rintro e w1 ⟨rfl, hg1⟩
  replace h1 := h1.below hg1.below
  replace h2 := h2.below hg1.below
  have c1 := h1.cell (i := 3) (v := .int .i64 x.p.2) rfl
  have c2 := h2.cell (i := 3) (v := .int .i64 y.p.2) rfl
  clear l1 l2
  by_cases h0 : C = 0
  · have b0 : (C == 0) = true := by simp [h0]
    have hR2 := Lib.hid (show R = x.p.2 - y.p.2 by rw [hR.out, if_pos h0])
    clear h0 hR
    go_wp2_with fail
    go_ret
    exact ⟨by rw [hR2.out]; rfl, hG.trans hg1⟩
  · have b0 : (C == 0) = false := by simp [h0]
    have hR2 := Lib.hid (show R = C by rw [hR.out, if_neg h0])
    clear h0 hR
    go_wp2_with fail
    go_ret
    exact ⟨by rw [hR2.out]; rfl, hG.trans hg1⟩

abbrev EnR := {x : En // En.R x}
instance : Inhabited EnR := ⟨⟨⟨(⟨false, 0, 0⟩, 0), []⟩, (show Pf.R (⟨false, 0, 0⟩, 0) from allP_R false)⟩⟩
def cmpEU (x y : EnR) : Int := cmpEn x.1 y.1
theorem ltEU_iff (x y : EnR) : ltOf cmpEU x y = true ↔ cmpEn x.1 y.1 < 0 := by
  unfold ltOf cmpEU
  simp
theorem ltEU_le (x y : EnR) (h : ltOf cmpEU x y = false) : cmpEn y.1 x.1 ≤ 0 := by
  have := mt (ltEU_iff x y).2 (by rw [h]; decide)
  have := cm_En.anti x.1 y.1
  omega
theorem ltEU_not (x y : EnR) (h : cmpEn y.1 x.1 ≤ 0) : ltOf cmpEU x y = false := by
  cases e : ltOf cmpEU x y
  · rfl
  · have := (ltEU_iff x y).1 e
    have := cm_En.anti x.1 y.1
    omega
theorem swo_cmpEU : Sort.SWO (ltOf cmpEU) where
  irrefl := fun x => ltEU_not x x (by rw [cm_En.self]; exact Int.le_refl 0)
  trans := fun x y z a b => (ltEU_iff x z).2 (cm_En.lt (Int.le_of_lt ((ltEU_iff x y).1 a)) (Int.le_of_lt ((ltEU_iff y z).1 b)) (.inl ((ltEU_iff x y).1 a)))
  ntrans := fun x y z a b => ltEU_not x z (cm_En.trans _ _ _ (ltEU_le y z b) (ltEU_le x y a))
theorem pairwise_ofE {d : Array EnR} {n : Nat} (hn : d.size = n) (h : Sort.SortedIn (ltOf cmpEU) 0 n d) : (d.toList.map (·.1)).Pairwise (fun x y => cmpEn x y ≤ 0) := by
  rw [List.pairwise_map, List.pairwise_iff_getElem]
  intro i j hi hj hij
  have := ltEU_le _ _ (h i j (Nat.zero_le _) hij (by rw [← hn]; simpa using hj))
  rw [getElem!_pos d i (by simpa using hi), getElem!_pos d j (by simpa using hj)] at this
  simpa using this
def SrtE (B : Nat) (w : World) (v : Value) (xs : List En) (e : Ending) (w' : World) : Prop :=
  e = .returned (.tuple #[]) ∧ ∃ qs : List En, qs.Perm xs ∧ qs.Pairwise (fun x y => cmpEn x y ≤ 0) ∧ OwnE eEn 37 B w' v qs ∧ Below B w w'
theorem lays_insEn (blk off size : Nat) (w : World) : CmpLays Tryz.prog 55 #[] (onP En.R eEn).enc (onP En.R eEn).k cmpEU blk off size w :=
  fun _ _ _ _ x y => (tblOrder_d x.1 y.1 _ x.2 y.2).mono fun _ _ h => ⟨h.1, h.2.grows⟩
theorem noneE_any {ρ : Go.Shelf.Ren} (L : SlLaysF0.n20 Tryz.prog ρ) (p : Option Addr) (cap : Nat) (fv : Value) (w : World) :
    Calls Tryz.prog (ρ.f 20) #[.slice p 0 cap, .int .i64 0, .int .i64 0, fv] w fun e w' => e = .returned (.tuple #[]) ∧ w' = w := AnyF.insertionSortCmpFunc_none L p cap fv w

set_option maxHeartbeats 2000000 in
theorem insEn_any (B : Nat) (A : Option Addr) (n cap : Nat) (v : Value) (hv : v = .slice A n cap) (xs : List En) (w : World) (hown : OwnE eEn 37 B w v xs) (hU : ∀ x ∈ xs, En.R x) (hb : B ≤ w.heap.size) (hn : n ≤ 1000000) :
    Calls Tryz.prog 110 #[v, .int .i64 0, .int .i64 n, .func (.func 55) #[] #[]] w (SrtE B w v xs) := by
  by_cases h0 : xs = []
  · subst h0
    obtain ⟨A', cap', hvv, hS⟩ := hown.sl
    rw [hv] at hvv
    injection hvv with e1 e2 e3
    subst hv e1 e2 e3
    refine (noneE_any Tryz.insEnt A cap _ w).mono ?_
    rintro e w' ⟨rfl, rfl⟩
    exact ⟨rfl, [], List.Perm.refl _, List.Pairwise.nil, hown, Below.refl _ _⟩
  · obtain ⟨ys, rfl⟩ := lift_P xs hU
    obtain ⟨g, cap', hvv, hg1, hg2, hcap, _⟩ := hown.form h0
    rw [hv] at hvv
    injection hvv with e1 e2 e3
    subst hv e1 e2 e3
    have hH := holdsP_own (E := eEn) hown
    have eg : ∀ args w, (callFunc 55 args).run Tryz.prog w = .ok (.enter 55 args) w := enters_of Tryz.func55 (by kernel_rfl) rfl
    have hcon := AnyQ.insertionSortCmpFunc Tryz.insEnt 5 Tryz.isAgg37 Tryz.sizeOf37 (onP En.R eEn).enc (onP En.R eEn).len (onP En.R eEn).one cmpEU 55 #[] g 0 cap 0 ys.toArray.size ys.toArray w eg (lays_insEn g 0 ys.toArray.size w) hH hg2 (Nat.zero_le _) (Nat.le_refl _) (by simp at hn ⊢; omega)
    change Calls Tryz.prog 110 _ _ _ at hcon
    have e0 : ys.toArray.size = ys.length := by simp
    have hI := Sort.insertionSort_holds (lt := ltOf cmpEU) swo_cmpEU ys.toArray 0 ys.toArray.size (Nat.zero_le _) (Nat.le_refl _)
    generalize Sort.insertionSort (ltOf cmpEU) ys.toArray 0 ys.toArray.size = d' at hcon hI
    obtain ⟨hp, hs⟩ := hI
    rw [e0] at hcon hs
    rw [List.length_map] at hown ⊢
    refine hcon.mono ?_
    rintro e w' ⟨rfl, m, os, rfl⟩
    have hsz : d'.size = ys.length := hp.1.trans e0
    refine ⟨rfl, List.map (fun x : EnR => x.1) d'.toList, by simpa using (perm_ofP hp).map (fun x : EnR => x.1), pairwise_ofE hsz hs, ?_, below_sortP hg1 hb⟩
    exact own_sortedP (E := eEn) hown hsz

set_option maxHeartbeats 2000000 in
theorem stableEn_any (B : Nat) (A : Option Addr) (n cap : Nat) (v : Value) (hv : v = .slice A n cap) (xs : List En) (w : World) (hown : OwnE eEn 37 B w v xs) (hU : ∀ x ∈ xs, En.R x) (hb : B ≤ w.heap.size) (hn : n < 20) :
    Calls Tryz.prog 54 #[v, .func (.func 55) #[] #[]] w (SrtE B w v xs) := by
  have HC := Lib.hid (insEn_any B A n cap v hv xs w hown hU hb (by omega))
  subst hv
  clear hown hU hb
  have HS : Hid (Calls Tryz.prog 86 #[.slice A n cap, .int .i64 n, .func (.func 55) #[] #[]] w (SrtE B w (.slice A n cap) xs)) := by
    refine Lib.hid ?_
    have h1 : ¬ (20 : Int) ≤ n := by omega
    have h2 : ¬ (20 : Int) < n := by omega
    go_enter Tryz.func86, Tryz.ntmps86
    go_wp2_with fail
    refine wp_loop_rounds 1 ?_
    rw [rounds_succ]
    go_wp2_with fail
    refine HC.out.mono ?_
    intro e w1 hq
    obtain ⟨rfl, hq⟩ := hq
    replace hq := Lib.hid hq
    go_wp2_with fail
    refine wp_loop_rounds 1 ?_
    rw [rounds_succ]
    go_wp2_with fail
    refine bodyPost_ret (v := .tuple #[]) ?_ rfl ⟨rfl, hq.out⟩
    simp [results, Tryz.results86, go_sem]
  clear HC
  go_enter Tryz.func54, Tryz.ntmps54
  go_wp2_with fail
  refine HS.out.mono ?_
  intro e w1 hq
  obtain ⟨rfl, hq⟩ := hq
  replace hq := Lib.hid hq
  go_wp2_with fail
  refine bodyPost_ret (v := .tuple #[]) ?_ rfl ⟨rfl, hq.out⟩
  simp [results, Tryz.results54, go_sem]
end Go.Proofs.YtfpcalgkfagjkaaGreatDoor
