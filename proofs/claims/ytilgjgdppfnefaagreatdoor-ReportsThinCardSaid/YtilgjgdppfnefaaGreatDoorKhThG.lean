/- Reports that are put together: SortedStableFunc. -/
import Derived.Test.YtilgjgdppfnefaaGreatDoorKhThE
import Derived.Test.YtilgjgdppfnefaaGreatDoorKhShelf
namespace Go.Proofs.YtilgjgdppfnefaaGreatDoor
open Go.RowKit Go.Shelf
set_option linter.unusedVariables false
set_option linter.unusedSimpArgs false

theorem lays_insRpC (blk off size : Nat) (w : World) : CmpLays Tryz.prog 34 #[] (onP Rp.U eRp).enc (onP Rp.U eRp).k cmpRU blk off size w :=
  fun _ _ _ _ x y => (repCmp_d x.1 y.1 _ x.2 y.2).mono fun _ _ h => ⟨h.1, h.2.grows⟩
set_option maxHeartbeats 2000000 in
set_option maxRecDepth 100000 in
theorem insRpC_any (B : Nat) (A : Option Addr) (n cap : Nat) (v : Value) (hv : v = .slice A n cap) (xs : List Rp) (w : World) (hown : OwnE eRp 37 B w v xs) (hU : ∀ x ∈ xs, x.U) (hb : B ≤ w.heap.size) (hn : n ≤ 1000000) :
    Calls Tryz.prog 80 #[v, .int .i64 0, .int .i64 n, .func (.func 34) #[] #[]] w (SrtR B w v xs) := by
  by_cases h0 : xs = []
  · subst h0
    obtain ⟨A', cap', hvv, hS⟩ := hown.sl
    rw [hv] at hvv
    injection hvv with e1 e2 e3
    subst hv e1 e2 e3
    refine (noneI_any Tryz.insRep A cap _ w).mono ?_
    rintro e w' ⟨rfl, rfl⟩
    exact ⟨rfl, [], List.Perm.refl _, List.Pairwise.nil, hown, Below.refl _ _⟩
  · obtain ⟨ys, rfl⟩ := lift_P xs hU
    obtain ⟨g, cap', hvv, hg1, hg2, hcap, _⟩ := hown.form h0
    rw [hv] at hvv
    injection hvv with e1 e2 e3
    subst hv e1 e2 e3
    have hH := holdsP_own (E := eRp) hown
    have eg : ∀ args w, (callFunc 34 args).run Tryz.prog w = .ok (.enter 34 args) w := enters_of Tryz.func34 (by kernel_rfl) rfl
    have hcon := AnyQ.insertionSortCmpFunc Tryz.insRep 14 Tryz.isAgg37 Tryz.sizeOf37 (onP Rp.U eRp).enc (onP Rp.U eRp).len (onP Rp.U eRp).one cmpRU 34 #[] g 0 cap 0 ys.toArray.size ys.toArray w eg (lays_insRpC g 0 ys.toArray.size w) hH hg2 (Nat.zero_le _) (Nat.le_refl _) (by simp at hn ⊢; omega)
    change Calls Tryz.prog 80 _ _ _ at hcon
    have e0 : ys.toArray.size = ys.length := by simp
    have hI := Sort.insertionSort_holds (lt := ltOf cmpRU) swo_cmpRU ys.toArray 0 ys.toArray.size (Nat.zero_le _) (Nat.le_refl _)
    generalize Sort.insertionSort (ltOf cmpRU) ys.toArray 0 ys.toArray.size = d' at hcon hI
    obtain ⟨hp, hs⟩ := hI
    rw [e0] at hcon hs
    rw [List.length_map] at hown ⊢
    refine hcon.mono ?_
    rintro e w' ⟨rfl, m, os, rfl⟩
    have hsz : d'.size = ys.length := hp.1.trans e0
    refine ⟨rfl, List.map (fun x : RpU => x.1) d'.toList, by simpa using (perm_ofP hp).map (fun x : RpU => x.1), pairwise_ofR hsz hs, ?_, below_sortP hg1 hb⟩
    exact own_sortedP (E := eRp) hown hsz

set_option maxHeartbeats 2000000 in
set_option maxRecDepth 100000 in
theorem stableRpC_any (B : Nat) (A : Option Addr) (n cap : Nat) (v : Value) (hv : v = .slice A n cap) (xs : List Rp) (w : World) (hown : OwnE eRp 37 B w v xs) (hU : ∀ x ∈ xs, x.U) (hb : B ≤ w.heap.size) (hn : n < 20) :
    Calls Tryz.prog 26 #[v, .func (.func 34) #[] #[]] w (SrtR B w v xs) := by
  have HC := Lib.hid (insRpC_any B A n cap v hv xs w hown hU hb (by omega))
  subst hv
  clear hown hU hb
  have HS : Hid (Calls Tryz.prog 52 #[.slice A n cap, .int .i64 n, .func (.func 34) #[] #[]] w (SrtR B w (.slice A n cap) xs)) := by
    refine Lib.hid ?_
    have h1 : ¬ (20 : Int) ≤ n := by omega
    have h2 : ¬ (20 : Int) < n := by omega
    go_enter Tryz.func52, Tryz.ntmps52
    go_wp2_with fail
    refine wp_loop_rounds 1 ?_
    rw [rounds_succ]
    go_wp2_with fail
    refine HC.out.mono ?_
    intro e w1 hq
    obtain ⟨rfl, hq⟩ := hq
    replace hq := Lib.hid hq
    go_wp2_with fail
    refine wp_loop_rounds 1 ?_
    rw [rounds_succ]
    go_wp2_with fail
    refine bodyPost_ret (v := .tuple #[]) ?_ rfl ⟨rfl, hq.out⟩
    simp [results, Tryz.results52, go_sem]
  clear HC
  go_enter Tryz.func26, Tryz.ntmps26
  go_wp2_with fail
  refine HS.out.mono ?_
  intro e w1 hq
  obtain ⟨rfl, hq⟩ := hq
  replace hq := Lib.hid hq
  go_wp2_with fail
  refine bodyPost_ret (v := .tuple #[]) ?_ rfl ⟨rfl, hq.out⟩
  simp [results, Tryz.results26, go_sem]

set_option maxHeartbeats 2000000 in
set_option maxRecDepth 100000 in
theorem insEndC_any (B : Nat) (A : Option Addr) (n cap : Nat) (v : Value) (hv : v = .slice A n cap) (xs : List Rp) (w : World) (hown : OwnE eRp 37 B w v xs) (hU : ∀ x ∈ xs, x.U) (h0 : xs ≠ []) (hb : B ≤ w.heap.size) (hn : n ≤ 1000000) :
    Calls Tryz.prog 80 #[v, .int .i64 n, .int .i64 n, .func (.func 34) #[] #[]] w fun e w' => e = .returned (.tuple #[]) ∧ OwnE eRp 37 B w' v xs ∧ Below B w w' := by
  obtain ⟨ys, rfl⟩ := lift_P xs hU
  obtain ⟨g, cap', hvv, hg1, hg2, hcap, _⟩ := hown.form h0
  rw [hv] at hvv
  injection hvv with e1 e2 e3
  subst hv e1 e2 e3
  have hH := holdsP_own (E := eRp) hown
  have eg : ∀ args w, (callFunc 34 args).run Tryz.prog w = .ok (.enter 34 args) w := enters_of Tryz.func34 (by kernel_rfl) rfl
  have hcon := AnyQ.insertionSortCmpFunc Tryz.insRep 14 Tryz.isAgg37 Tryz.sizeOf37 (onP Rp.U eRp).enc (onP Rp.U eRp).len (onP Rp.U eRp).one cmpRU 34 #[] g 0 cap ys.toArray.size ys.toArray.size ys.toArray w eg (lays_insRpC g 0 ys.toArray.size w) hH hg2 (Nat.le_refl _) (Nat.le_refl _) (by simp at hn ⊢; omega)
  change Calls Tryz.prog 80 _ _ _ at hcon
  have e0 : ys.toArray.size = ys.length := by simp
  have hI := (Sort.insertionSort_holds (lt := ltOf cmpRU) swo_cmpRU ys.toArray ys.toArray.size ys.toArray.size (Nat.le_refl _) (Nat.le_refl _)).1
  generalize Sort.insertionSort (ltOf cmpRU) ys.toArray ys.toArray.size ys.toArray.size = d' at hcon hI
  have hd : d' = ys.toArray := by
    apply Array.ext hI.1
    intro i a b
    have := hI.2.1 i (.inl b)
    rw [getElem!_pos d' i a, getElem!_pos ys.toArray i b] at this
    exact this
  subst hd
  rw [e0] at hcon
  rw [List.length_map] at hown ⊢
  refine hcon.mono ?_
  rintro e w' ⟨rfl, m, os, rfl⟩
  refine ⟨rfl, ?_, below_sortP hg1 hb⟩
  have := own_sortedP (E := eRp) (d' := ys.toArray) (m := m) (os := os) hown e0
  rw [show ys.toArray.toList = ys by simp] at this
  exact this

set_option maxHeartbeats 2000000 in
set_option maxRecDepth 100000 in
theorem stable20C_any (B : Nat) (A : Option Addr) (cap : Nat) (v : Value) (hv : v = .slice A 20 cap) (xs : List Rp) (w : World) (hown : OwnE eRp 37 B w v xs) (hU : ∀ x ∈ xs, x.U) (h0 : xs ≠ []) (hb : B ≤ w.heap.size) :
    Calls Tryz.prog 26 #[v, .func (.func 34) #[] #[]] w (SrtR B w v xs) := by
  have HC : Hid (Calls Tryz.prog 80 #[v, .int .i64 0, .int .i64 20, .func (.func 34) #[] #[]] w (SrtR B w v xs)) := Lib.hid (insRpC_any B A 20 cap v hv xs w hown hU hb (by decide))
  have HE : Hid (∀ qs w1, OwnE eRp 37 B w1 v qs → (∀ x ∈ qs, x.U) → qs ≠ [] → B ≤ w1.heap.size → Calls Tryz.prog 80 #[v, .int .i64 20, .int .i64 20, .func (.func 34) #[] #[]] w1 fun e w' => e = .returned (.tuple #[]) ∧ OwnE eRp 37 B w' v qs ∧ Below B w1 w') := Lib.hid (fun qs w1 a b c d => insEndC_any B A 20 cap v hv qs w1 a b c d (by decide))
  subst hv
  replace hU := Lib.hid hU
  replace h0 := Lib.hid h0
  clear hown
  have HS : Hid (Calls Tryz.prog 52 #[.slice A 20 cap, .int .i64 20, .func (.func 34) #[] #[]] w (SrtR B w (.slice A 20 cap) xs)) := by
    refine Lib.hid ?_
    go_enter Tryz.func52, Tryz.ntmps52
    go_wp2_with fail
    refine wp_loop_rounds 2 ?_
    rw [rounds_succ]
    go_wp2_with fail
    refine HC.out.mono ?_
    intro e w1 hq
    obtain ⟨rfl, qs, hp, hs, hown, hb1⟩ := hq
    have HE2 := Lib.hid (HE.out qs w1 hown (fun x hx => hU.out x (hp.mem_iff.1 hx)) (fun k => h0.out (by subst k; exact List.length_eq_zero_iff.1 hp.length_eq.symm)) (Nat.le_trans hb hb1.size))
    replace hp := Lib.hid hp
    replace hs := Lib.hid hs
    clear HC HE hown
    go_wp2_with fail
    rw [rounds_succ]
    go_wp2_with fail
    refine HE2.out.mono ?_
    rintro e w2 ⟨rfl, hown, hb2⟩
    replace hown := Lib.hid hown
    go_wp2_with fail
    refine wp_loop_rounds 1 ?_
    rw [rounds_succ]
    go_wp2_with fail
    refine bodyPost_ret (v := .tuple #[]) ?_ rfl ⟨rfl, qs, hp.out, hs.out, hown.out, hb1.trans hb2⟩
    simp [results, Tryz.results52, go_sem]
  clear HC HE hU h0
  go_enter Tryz.func26, Tryz.ntmps26
  go_wp2_with fail
  refine HS.out.mono ?_
  intro e w1 hq
  obtain ⟨rfl, hq⟩ := hq
  replace hq := Lib.hid hq
  go_wp2_with fail
  refine bodyPost_ret (v := .tuple #[]) ?_ rfl ⟨rfl, hq.out⟩
  simp [results, Tryz.results26, go_sem]
theorem stableAllC_any (B : Nat) (A : Option Addr) (n cap : Nat) (v : Value) (hv : v = .slice A n cap) (xs : List Rp) (w : World) (hown : OwnE eRp 37 B w v xs) (hU : ∀ x ∈ xs, x.U) (hb : B ≤ w.heap.size) (hnl : n = xs.length) (hn : n ≤ 20) :
    Calls Tryz.prog 26 #[v, .func (.func 34) #[] #[]] w (SrtR B w v xs) := by
  by_cases h : n < 20
  · exact stableRpC_any B A n cap v hv xs w hown hU hb h
  · have e : n = 20 := by omega
    subst e
    exact stable20C_any B A cap v hv xs w hown hU (by intro k; subst k; exact absurd hnl (by decide)) hb
end Go.Proofs.YtilgjgdppfnefaaGreatDoor
namespace Go.Proofs.YtilgjgdppfnefaaGreatDoor
open Go.RowKit
set_option linter.unusedVariables false
set_option linter.unusedSimpArgs false

/-- A list sorted into memory of its own. -/
def SrtN (w : World) (xs : List Rp) (e : Ending) (w' : World) : Prop := ∃ (A : Option Addr) (cap : Nat) (qs : List Rp), e = .returned (.slice A xs.length cap) ∧ qs.Perm xs ∧ qs.Pairwise (fun x y => cmpRp x y ≤ 0) ∧ OwnE eRp 37 w.heap.size w' (.slice A xs.length cap) qs ∧ Below w.heap.size w w'

set_option maxHeartbeats 2000000 in
set_option maxRecDepth 100000 in
theorem sortedStable_any (bs : Nat) (A : Option Addr) (n cap : Nat) (zs : List Rp) (w : World) (hS : SlE eRp w A n cap zs) (hbs : Boxed w bs 26 (.slice A n cap)) (hn : n ≤ 20) (hU : ∀ x ∈ zs, x.U) :
    Calls Tryz.prog 98 #[.func (.func 129) #[] #[.pointer (some ⟨bs, 0, none⟩)], .func (.func 34) #[] #[]] w (SrtN w zs) := by
  have HC := Lib.hid (collectR_any bs A n cap zs w hS hbs (by omega))
  have hl := Lib.hid (show zs.length ≤ 20 by rw [← hS.1]; exact hn)
  replace hU := Lib.hid hU
  clear hS hbs hn
  go_enter Tryz.func98, Tryz.ntmps98
  go_wp2_with fail
  refine HC.out.mono ?_
  rintro e w1 ⟨⟨v, rfl, hown⟩, hb⟩
  obtain ⟨A', c', hv, _⟩ := hown.sl
  have HS := Lib.hid (stableAllC_any w.heap.size A' zs.length c' v hv zs w1 hown hU.out hb.size rfl hl.out)
  subst hv
  obtain ⟨L, hL⟩ : ∃ L, L = zs.length := ⟨_, rfl⟩
  rw [← hL] at HS ⊢
  replace hL := Lib.hid hL
  clear HC hown
  go_wp2_with fail
  refine HS.out.mono ?_
  intro e w2 hq
  obtain ⟨rfl, qs, hp, hs, hown, hb2⟩ := hq
  have hbF := hb.trans hb2
  replace hp := Lib.hid hp
  replace hs := Lib.hid hs
  replace hown := Lib.hid hown
  clear HS hb hb2
  go_wp2_with fail
  go_ret
  exact ⟨A', c', qs, by rw [← hL.out]; rfl, hp.out, hs.out, by rw [← hL.out]; exact hown.out, hbF⟩
end Go.Proofs.YtilgjgdppfnefaaGreatDoor
